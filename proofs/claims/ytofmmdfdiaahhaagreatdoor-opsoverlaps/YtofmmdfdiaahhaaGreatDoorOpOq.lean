/- ops.Overlaps and the reference's, way by way. -/
import Derived.Test.YtofmmdfdiaahhaaGreatDoorOpUq
import Derived.Test.YtofmmdfdiaahhaaGreatDoorDyYq
import Derived.Deep.Cut
namespace Go.Proofs.YtofmmdfdiaahhaaGreatDoor
open Go.RowKit
set_option linter.unusedVariables false

set_option maxRecDepth 100000 in
set_option maxHeartbeats 4000000 in
theorem io_gt (i a j b c : Int) (h : 0 < c)
    (CM : Hid (∀ w : World, Cvl.Lens w → Calls Tryz.prog 22 #[.agg #[.int .i64 i, .int .i64 a], .agg #[.int .i64 j, .int .i64 b]] w fun r' w' => r' = .returned (.int .i64 c) ∧ Below w.heap.size w w'))
    (w : World) (hL : Hid (∀ W : World, Below w.heap.size w W → Cvl.Lens W)) :
    Calls Tryz.prog 21 #[.agg #[.int .i64 i, .int .i64 a], .agg #[.int .i64 j, .int .i64 b]] w fun r' w' => r' = .returned (.tuple #[.agg #[.int .i64 j, .int .i64 b], .agg #[.int .i64 i, .int .i64 a]]) ∧ Below w.heap.size w w' := by
  have K0 : Hid (BS w [(w.heap.size + 3, [.int .i64 0, .int .i64 0]), (w.heap.size + 2, [.int .i64 0, .int .i64 0]), (w.heap.size + 1, [.int .i64 j, .int .i64 b]), (w.heap.size, [.int .i64 i, .int .i64 a])] ((((w.alloc (.cells #[.int .i64 i, .int .i64 a] 23)).alloc (.cells #[.int .i64 j, .int .i64 b] 23)).alloc (.cells #[.int .i64 0, .int .i64 0] 23)).alloc (.cells #[.int .i64 0, .int .i64 0] 23))) := (((((BS.start w).new [.int .i64 i, .int .i64 a] 23 rfl).new [.int .i64 j, .int .i64 b] 23 (by simp)).new [.int .i64 0, .int .i64 0] 23 (by simp)).new [.int .i64 0, .int .i64 0] 23 (by simp))
  go_enter Tryz.func21, Tryz.ntmps21
  go_wp2_with fail
  refine (CM.out _ (hL.out _ K0.out.1)).mono ?_
  rintro e W1 ⟨rfl, hb⟩
  have K1 := bsb K0 hb
  clear hb K0
  obtain ⟨c1_0_0, c1_0_1⟩ := (bo1 K1).c2
  obtain ⟨c1_1_0, c1_1_1⟩ := (bo2 K1).c2
  obtain ⟨c1_2_0, c1_2_1⟩ := (bo3 K1).c2
  obtain ⟨c1_3_0, c1_3_1⟩ := (bo4 K1).c2
  go_upto_region 2 with fail
  clear c1_0_0 c1_0_1 c1_1_0 c1_1_1 c1_2_0 c1_2_1 c1_3_0 c1_3_1
  have HN : Hid (NB w [(w.heap.size + 1, [.int .i64 j, .int .i64 b]), (w.heap.size, [.int .i64 i, .int .i64 a])] W1.drew (w.heap.size + 2) [.int .i64 0, .int .i64 0]) := ⟨K1.out.at (w.heap.size + 2) [.int .i64 0, .int .i64 0] (by simp), by omega, by intro x hx; simp only [List.mem_cons, List.not_mem_nil, or_false] at hx; rcases hx with rfl | rfl <;> simp only [] <;> omega⟩
  have HM : Hid (NB w [(w.heap.size + 1, [.int .i64 j, .int .i64 b]), (w.heap.size, [.int .i64 i, .int .i64 a])] W1.drew (w.heap.size + 3) [.int .i64 0, .int .i64 0]) := ⟨K1.out.at (w.heap.size + 3) [.int .i64 0, .int .i64 0] (by simp), by omega, by intro x hx; simp only [List.mem_cons, List.not_mem_nil, or_false] at hx; rcases hx with rfl | rfl <;> simp only [] <;> omega⟩
  have KR : Hid (BS w [(w.heap.size + 1, [.int .i64 j, .int .i64 b]), (w.heap.size, [.int .i64 i, .int .i64 a])] W1) := K1.out.perm (by intro x hx; simp only [List.mem_cons, List.not_mem_nil, or_false] at hx ⊢; rcases hx with h | h <;> simp [h])
  refine wp_region_held_drew (S := BS w [(w.heap.size + 1, [.int .i64 j, .int .i64 b]), (w.heap.size, [.int .i64 i, .int .i64 a])]) (by kernel_rfl) KR.out.drew (fun hHeld => ?_)
  refine wpAnyH_take (i := 0) (v := ?_) (oi := { dst := some 10, op := _, type := _, pos := _, after := _, guard := none }) rfl (by kernel_rfl) (by kernel_rfl) (by kernel_rfl) (fun _ _ _ h => h) (Or.inl ⟨by kernel_rfl, ?_⟩) (by assumption) ?_
  case refine_2 => (intro w9 hSw; have l0_0 := (hSw.at (w.heap.size + 1) [.int .i64 j, .int .i64 b] (by simp)).c 0 rfl; have l0_1 := (hSw.at (w.heap.size + 1) [.int .i64 j, .int .i64 b] (by simp)).c 1 rfl; have l1_0 := (hSw.at (w.heap.size) [.int .i64 i, .int .i64 a] (by simp)).c 0 rfl; have l1_1 := (hSw.at (w.heap.size) [.int .i64 i, .int .i64 a] (by simp)).c 1 rfl; clear hSw; go_simp; try with_reducible rfl)
  simp only [Act.put, List.setIfInBounds_toArray, List.set_cons_zero, List.set_cons_succ]
  refine wpAnyH_take (i := 1) (v := ?_) (oi := { dst := some 11, op := _, type := _, pos := _, after := _, guard := none }) rfl (by kernel_rfl) (by kernel_rfl) (by kernel_rfl) (fun _ _ _ h => h) (Or.inl ⟨by kernel_rfl, ?_⟩) (by assumption) ?_
  case refine_2 => (intro w9 hSw; have l0_0 := (hSw.at (w.heap.size + 1) [.int .i64 j, .int .i64 b] (by simp)).c 0 rfl; have l0_1 := (hSw.at (w.heap.size + 1) [.int .i64 j, .int .i64 b] (by simp)).c 1 rfl; have l1_0 := (hSw.at (w.heap.size) [.int .i64 i, .int .i64 a] (by simp)).c 0 rfl; have l1_1 := (hSw.at (w.heap.size) [.int .i64 i, .int .i64 a] (by simp)).c 1 rfl; clear hSw; go_simp; try with_reducible rfl)
  simp only [Act.put, List.setIfInBounds_toArray, List.set_cons_zero, List.set_cons_succ]
  refine wpAnyH_ready (rs := [2]) (by kernel_rfl) (by simp) (AllReadyH.cons (o := { dst := none, op := _, type := _, pos := _, after := _, guard := none }) rfl (fun K hK => ?_) AllReadyH.nil)
  refine (if_pos (by kernel_rfl)).mpr (wp_store_mid 23 _ _ rfl _ 0 #[.int .i64 j, .int .i64 b] rfl rfl HN.out.1.there (by kernel_rfl) (by simp [Value.oneCell']) (hK.out _ _ (hHeld.off HN.out.2.1 HN.out.2.2 _) (fun hHeld => ?_)))
  have X2 : Hid (Bx _ (w.heap.size + 2) [.int .i64 j, .int .i64 b]) := HN.out.1.setAll [.int .i64 j, .int .i64 b] rfl
  have HM2 : Hid (NB w [(w.heap.size + 1, [.int .i64 j, .int .i64 b]), (w.heap.size, [.int .i64 i, .int .i64 a])] _ (w.heap.size + 3) [.int .i64 0, .int .i64 0]) := ⟨HM.out.1.setOther (b := w.heap.size + 2) (by omega) [.int .i64 j, .int .i64 b], HM.out.2⟩
  clear hK K HN HM
  refine wpAnyH_ready (rs := [3]) (by kernel_rfl) (by simp) (AllReadyH.cons (o := { dst := none, op := _, type := _, pos := _, after := _, guard := none }) rfl (fun K hK => ?_) AllReadyH.nil)
  refine (if_pos (by kernel_rfl)).mpr (wp_store_mid 23 _ _ rfl _ 0 #[.int .i64 i, .int .i64 a] rfl rfl HM2.out.1.there (by kernel_rfl) (by simp [Value.oneCell']) (hK.out _ _ (hHeld.off HM2.out.2.1 HM2.out.2.2 _) (fun hHeld => ?_)))
  have X3 : Hid (Bx _ (w.heap.size + 3) [.int .i64 i, .int .i64 a]) := HM2.out.1.setAll [.int .i64 i, .int .i64 a] rfl
  have X4 : Hid (Bx _ (w.heap.size + 2) [.int .i64 j, .int .i64 b]) := X2.out.setOther (b := w.heap.size + 3) (by omega) [.int .i64 i, .int .i64 a]
  clear hK K HM2 X2
  refine wpAnyH_done (by kernel_rfl) ?_ _
  obtain ⟨y0, y1⟩ := X4.out.c2
  obtain ⟨y2, y3⟩ := X3.out.c2
  have HB : Hid (Below w.heap.size w _) := hHeld.1
  clear hHeld X3 X4
  go_wp2
  exact bodyPost_ret (v := .tuple #[.agg #[.int .i64 j, .int .i64 b], .agg #[.int .i64 i, .int .i64 a]]) (by simp [results, Tryz.results21, go_sem, y0, y1, y2, y3]) rfl ⟨rfl, HB.out⟩

set_option maxRecDepth 100000 in
set_option maxHeartbeats 4000000 in
theorem io_le (i a j b c : Int) (h : ¬ 0 < c)
    (CM : Hid (∀ w : World, Cvl.Lens w → Calls Tryz.prog 22 #[.agg #[.int .i64 i, .int .i64 a], .agg #[.int .i64 j, .int .i64 b]] w fun r' w' => r' = .returned (.int .i64 c) ∧ Below w.heap.size w w'))
    (w : World) (hL : Hid (∀ W : World, Below w.heap.size w W → Cvl.Lens W)) :
    Calls Tryz.prog 21 #[.agg #[.int .i64 i, .int .i64 a], .agg #[.int .i64 j, .int .i64 b]] w fun r' w' => r' = .returned (.tuple #[.agg #[.int .i64 i, .int .i64 a], .agg #[.int .i64 j, .int .i64 b]]) ∧ Below w.heap.size w w' := by
  have K0 : Hid (BS w [(w.heap.size + 3, [.int .i64 0, .int .i64 0]), (w.heap.size + 2, [.int .i64 0, .int .i64 0]), (w.heap.size + 1, [.int .i64 j, .int .i64 b]), (w.heap.size, [.int .i64 i, .int .i64 a])] ((((w.alloc (.cells #[.int .i64 i, .int .i64 a] 23)).alloc (.cells #[.int .i64 j, .int .i64 b] 23)).alloc (.cells #[.int .i64 0, .int .i64 0] 23)).alloc (.cells #[.int .i64 0, .int .i64 0] 23))) := (((((BS.start w).new [.int .i64 i, .int .i64 a] 23 rfl).new [.int .i64 j, .int .i64 b] 23 (by simp)).new [.int .i64 0, .int .i64 0] 23 (by simp)).new [.int .i64 0, .int .i64 0] 23 (by simp))
  go_enter Tryz.func21, Tryz.ntmps21
  go_wp2_with fail
  refine (CM.out _ (hL.out _ K0.out.1)).mono ?_
  rintro e W1 ⟨rfl, hb⟩
  have K1 := bsb K0 hb
  clear hb K0
  obtain ⟨c1_0_0, c1_0_1⟩ := (bo1 K1).c2
  obtain ⟨c1_1_0, c1_1_1⟩ := (bo2 K1).c2
  obtain ⟨c1_2_0, c1_2_1⟩ := (bo3 K1).c2
  obtain ⟨c1_3_0, c1_3_1⟩ := (bo4 K1).c2
  go_upto_region 3 with fail
  clear c1_0_0 c1_0_1 c1_1_0 c1_1_1 c1_2_0 c1_2_1 c1_3_0 c1_3_1
  have HN : Hid (NB w [(w.heap.size + 1, [.int .i64 j, .int .i64 b]), (w.heap.size, [.int .i64 i, .int .i64 a])] W1.drew (w.heap.size + 2) [.int .i64 0, .int .i64 0]) := ⟨K1.out.at (w.heap.size + 2) [.int .i64 0, .int .i64 0] (by simp), by omega, by intro x hx; simp only [List.mem_cons, List.not_mem_nil, or_false] at hx; rcases hx with rfl | rfl <;> simp only [] <;> omega⟩
  have HM : Hid (NB w [(w.heap.size + 1, [.int .i64 j, .int .i64 b]), (w.heap.size, [.int .i64 i, .int .i64 a])] W1.drew (w.heap.size + 3) [.int .i64 0, .int .i64 0]) := ⟨K1.out.at (w.heap.size + 3) [.int .i64 0, .int .i64 0] (by simp), by omega, by intro x hx; simp only [List.mem_cons, List.not_mem_nil, or_false] at hx; rcases hx with rfl | rfl <;> simp only [] <;> omega⟩
  have KR : Hid (BS w [(w.heap.size + 1, [.int .i64 j, .int .i64 b]), (w.heap.size, [.int .i64 i, .int .i64 a])] W1) := K1.out.perm (by intro x hx; simp only [List.mem_cons, List.not_mem_nil, or_false] at hx ⊢; rcases hx with h | h <;> simp [h])
  refine wp_region_held_drew (S := BS w [(w.heap.size + 1, [.int .i64 j, .int .i64 b]), (w.heap.size, [.int .i64 i, .int .i64 a])]) (by kernel_rfl) KR.out.drew (fun hHeld => ?_)
  refine wpAnyH_take (i := 0) (v := ?_) (oi := { dst := some 12, op := _, type := _, pos := _, after := _, guard := none }) rfl (by kernel_rfl) (by kernel_rfl) (by kernel_rfl) (fun _ _ _ h => h) (Or.inl ⟨by kernel_rfl, ?_⟩) (by assumption) ?_
  case refine_2 => (intro w9 hSw; have l0_0 := (hSw.at (w.heap.size + 1) [.int .i64 j, .int .i64 b] (by simp)).c 0 rfl; have l0_1 := (hSw.at (w.heap.size + 1) [.int .i64 j, .int .i64 b] (by simp)).c 1 rfl; have l1_0 := (hSw.at (w.heap.size) [.int .i64 i, .int .i64 a] (by simp)).c 0 rfl; have l1_1 := (hSw.at (w.heap.size) [.int .i64 i, .int .i64 a] (by simp)).c 1 rfl; clear hSw; go_simp; try with_reducible rfl)
  simp only [Act.put, List.setIfInBounds_toArray, List.set_cons_zero, List.set_cons_succ]
  refine wpAnyH_take (i := 1) (v := ?_) (oi := { dst := some 13, op := _, type := _, pos := _, after := _, guard := none }) rfl (by kernel_rfl) (by kernel_rfl) (by kernel_rfl) (fun _ _ _ h => h) (Or.inl ⟨by kernel_rfl, ?_⟩) (by assumption) ?_
  case refine_2 => (intro w9 hSw; have l0_0 := (hSw.at (w.heap.size + 1) [.int .i64 j, .int .i64 b] (by simp)).c 0 rfl; have l0_1 := (hSw.at (w.heap.size + 1) [.int .i64 j, .int .i64 b] (by simp)).c 1 rfl; have l1_0 := (hSw.at (w.heap.size) [.int .i64 i, .int .i64 a] (by simp)).c 0 rfl; have l1_1 := (hSw.at (w.heap.size) [.int .i64 i, .int .i64 a] (by simp)).c 1 rfl; clear hSw; go_simp; try with_reducible rfl)
  simp only [Act.put, List.setIfInBounds_toArray, List.set_cons_zero, List.set_cons_succ]
  refine wpAnyH_ready (rs := [2]) (by kernel_rfl) (by simp) (AllReadyH.cons (o := { dst := none, op := _, type := _, pos := _, after := _, guard := none }) rfl (fun K hK => ?_) AllReadyH.nil)
  refine (if_pos (by kernel_rfl)).mpr (wp_store_mid 23 _ _ rfl _ 0 #[.int .i64 i, .int .i64 a] rfl rfl HN.out.1.there (by kernel_rfl) (by simp [Value.oneCell']) (hK.out _ _ (hHeld.off HN.out.2.1 HN.out.2.2 _) (fun hHeld => ?_)))
  have X2 : Hid (Bx _ (w.heap.size + 2) [.int .i64 i, .int .i64 a]) := HN.out.1.setAll [.int .i64 i, .int .i64 a] rfl
  have HM2 : Hid (NB w [(w.heap.size + 1, [.int .i64 j, .int .i64 b]), (w.heap.size, [.int .i64 i, .int .i64 a])] _ (w.heap.size + 3) [.int .i64 0, .int .i64 0]) := ⟨HM.out.1.setOther (b := w.heap.size + 2) (by omega) [.int .i64 i, .int .i64 a], HM.out.2⟩
  clear hK K HN HM
  refine wpAnyH_ready (rs := [3]) (by kernel_rfl) (by simp) (AllReadyH.cons (o := { dst := none, op := _, type := _, pos := _, after := _, guard := none }) rfl (fun K hK => ?_) AllReadyH.nil)
  refine (if_pos (by kernel_rfl)).mpr (wp_store_mid 23 _ _ rfl _ 0 #[.int .i64 j, .int .i64 b] rfl rfl HM2.out.1.there (by kernel_rfl) (by simp [Value.oneCell']) (hK.out _ _ (hHeld.off HM2.out.2.1 HM2.out.2.2 _) (fun hHeld => ?_)))
  have X3 : Hid (Bx _ (w.heap.size + 3) [.int .i64 j, .int .i64 b]) := HM2.out.1.setAll [.int .i64 j, .int .i64 b] rfl
  have X4 : Hid (Bx _ (w.heap.size + 2) [.int .i64 i, .int .i64 a]) := X2.out.setOther (b := w.heap.size + 3) (by omega) [.int .i64 j, .int .i64 b]
  clear hK K HM2 X2
  refine wpAnyH_done (by kernel_rfl) ?_ _
  obtain ⟨y0, y1⟩ := X4.out.c2
  obtain ⟨y2, y3⟩ := X3.out.c2
  have HB : Hid (Below w.heap.size w _) := hHeld.1
  clear hHeld X3 X4
  go_wp2
  exact bodyPost_ret (v := .tuple #[.agg #[.int .i64 i, .int .i64 a], .agg #[.int .i64 j, .int .i64 b]]) (by simp [results, Tryz.results21, go_sem, y0, y1, y2, y3]) rfl ⟨rfl, HB.out⟩

set_option maxRecDepth 100000 in
set_option maxHeartbeats 4000000 in
theorem ov_no0 (i0 a i1 b i2 c i3 d : Int)
    (R0 : Hid (∀ w : World, Cvl.Lens w → Calls Tryz.prog 20 #[.agg #[.int .i64 i0, .int .i64 a]] w fun r' w' => r' = .returned (.bool false) ∧ Below w.heap.size w w'))
    (w : World) (hL : Hid (∀ W : World, Below w.heap.size w W → Cvl.Lens W)) :
    Calls Tryz.prog 7 #[.agg #[.int .i64 i0, .int .i64 a], .agg #[.int .i64 i1, .int .i64 b], .agg #[.int .i64 i2, .int .i64 c], .agg #[.int .i64 i3, .int .i64 d]] w fun r' w' => r' = .returned (.tuple #[.bool false, .int .i64 1]) ∧ Below w.heap.size w w' := by
  have K0 : Hid (BS w [(w.heap.size + 3, [.int .i64 i3, .int .i64 d]), (w.heap.size + 2, [.int .i64 i2, .int .i64 c]), (w.heap.size + 1, [.int .i64 i1, .int .i64 b]), (w.heap.size, [.int .i64 i0, .int .i64 a])] ((((w.alloc (.cells #[.int .i64 i0, .int .i64 a] 23)).alloc (.cells #[.int .i64 i1, .int .i64 b] 23)).alloc (.cells #[.int .i64 i2, .int .i64 c] 23)).alloc (.cells #[.int .i64 i3, .int .i64 d] 23))) := (((((BS.start w).new [.int .i64 i0, .int .i64 a] 23 rfl).new [.int .i64 i1, .int .i64 b] 23 (by simp)).new [.int .i64 i2, .int .i64 c] 23 (by simp)).new [.int .i64 i3, .int .i64 d] 23 (by simp))
  go_enter Tryz.func7, Tryz.ntmps7
  go_wp2_with fail
  refine (R0.out _ (hL.out _ K0.out.1)).mono ?_
  rintro e W1 ⟨rfl, hb⟩
  have K1 := bsb K0 hb
  clear hb K0
  obtain ⟨c1_0_0, c1_0_1⟩ := (bo1 K1).c2
  obtain ⟨c1_1_0, c1_1_1⟩ := (bo2 K1).c2
  obtain ⟨c1_2_0, c1_2_1⟩ := (bo3 K1).c2
  obtain ⟨c1_3_0, c1_3_1⟩ := (bo4 K1).c2
  go_wp2
  go_ret2
  exact ⟨rfl, K1.out.1⟩

set_option maxRecDepth 100000 in
set_option maxHeartbeats 4000000 in
theorem ov_no1 (i0 a i1 b i2 c i3 d : Int)
    (R0 : Hid (∀ w : World, Cvl.Lens w → Calls Tryz.prog 20 #[.agg #[.int .i64 i0, .int .i64 a]] w fun r' w' => r' = .returned (.bool true) ∧ Below w.heap.size w w'))
    (R1 : Hid (∀ w : World, Cvl.Lens w → Calls Tryz.prog 20 #[.agg #[.int .i64 i1, .int .i64 b]] w fun r' w' => r' = .returned (.bool false) ∧ Below w.heap.size w w'))
    (w : World) (hL : Hid (∀ W : World, Below w.heap.size w W → Cvl.Lens W)) :
    Calls Tryz.prog 7 #[.agg #[.int .i64 i0, .int .i64 a], .agg #[.int .i64 i1, .int .i64 b], .agg #[.int .i64 i2, .int .i64 c], .agg #[.int .i64 i3, .int .i64 d]] w fun r' w' => r' = .returned (.tuple #[.bool false, .int .i64 1]) ∧ Below w.heap.size w w' := by
  have K0 : Hid (BS w [(w.heap.size + 3, [.int .i64 i3, .int .i64 d]), (w.heap.size + 2, [.int .i64 i2, .int .i64 c]), (w.heap.size + 1, [.int .i64 i1, .int .i64 b]), (w.heap.size, [.int .i64 i0, .int .i64 a])] ((((w.alloc (.cells #[.int .i64 i0, .int .i64 a] 23)).alloc (.cells #[.int .i64 i1, .int .i64 b] 23)).alloc (.cells #[.int .i64 i2, .int .i64 c] 23)).alloc (.cells #[.int .i64 i3, .int .i64 d] 23))) := (((((BS.start w).new [.int .i64 i0, .int .i64 a] 23 rfl).new [.int .i64 i1, .int .i64 b] 23 (by simp)).new [.int .i64 i2, .int .i64 c] 23 (by simp)).new [.int .i64 i3, .int .i64 d] 23 (by simp))
  go_enter Tryz.func7, Tryz.ntmps7
  go_wp2_with fail
  refine (R0.out _ (hL.out _ K0.out.1)).mono ?_
  rintro e W1 ⟨rfl, hb⟩
  have K1 := bsb K0 hb
  clear hb K0
  obtain ⟨c1_0_0, c1_0_1⟩ := (bo1 K1).c2
  obtain ⟨c1_1_0, c1_1_1⟩ := (bo2 K1).c2
  obtain ⟨c1_2_0, c1_2_1⟩ := (bo3 K1).c2
  obtain ⟨c1_3_0, c1_3_1⟩ := (bo4 K1).c2
  go_wp2_with fail
  refine (R1.out _ (hL.out _ K1.out.1)).mono ?_
  rintro e W2 ⟨rfl, hb⟩
  have K2 := bsb K1 hb
  clear c1_0_0 c1_0_1 c1_1_0 c1_1_1 c1_2_0 c1_2_1 c1_3_0 c1_3_1
  clear hb K1
  obtain ⟨c2_0_0, c2_0_1⟩ := (bo1 K2).c2
  obtain ⟨c2_1_0, c2_1_1⟩ := (bo2 K2).c2
  obtain ⟨c2_2_0, c2_2_1⟩ := (bo3 K2).c2
  obtain ⟨c2_3_0, c2_3_1⟩ := (bo4 K2).c2
  go_wp2
  go_ret2
  exact ⟨rfl, K2.out.1⟩

set_option maxRecDepth 100000 in
set_option maxHeartbeats 4000000 in
theorem ov_no2 (i0 a i1 b i2 c i3 d : Int)
    (R0 : Hid (∀ w : World, Cvl.Lens w → Calls Tryz.prog 20 #[.agg #[.int .i64 i0, .int .i64 a]] w fun r' w' => r' = .returned (.bool true) ∧ Below w.heap.size w w'))
    (R1 : Hid (∀ w : World, Cvl.Lens w → Calls Tryz.prog 20 #[.agg #[.int .i64 i1, .int .i64 b]] w fun r' w' => r' = .returned (.bool true) ∧ Below w.heap.size w w'))
    (R2 : Hid (∀ w : World, Cvl.Lens w → Calls Tryz.prog 20 #[.agg #[.int .i64 i2, .int .i64 c]] w fun r' w' => r' = .returned (.bool false) ∧ Below w.heap.size w w'))
    (w : World) (hL : Hid (∀ W : World, Below w.heap.size w W → Cvl.Lens W)) :
    Calls Tryz.prog 7 #[.agg #[.int .i64 i0, .int .i64 a], .agg #[.int .i64 i1, .int .i64 b], .agg #[.int .i64 i2, .int .i64 c], .agg #[.int .i64 i3, .int .i64 d]] w fun r' w' => r' = .returned (.tuple #[.bool false, .int .i64 1]) ∧ Below w.heap.size w w' := by
  have K0 : Hid (BS w [(w.heap.size + 3, [.int .i64 i3, .int .i64 d]), (w.heap.size + 2, [.int .i64 i2, .int .i64 c]), (w.heap.size + 1, [.int .i64 i1, .int .i64 b]), (w.heap.size, [.int .i64 i0, .int .i64 a])] ((((w.alloc (.cells #[.int .i64 i0, .int .i64 a] 23)).alloc (.cells #[.int .i64 i1, .int .i64 b] 23)).alloc (.cells #[.int .i64 i2, .int .i64 c] 23)).alloc (.cells #[.int .i64 i3, .int .i64 d] 23))) := (((((BS.start w).new [.int .i64 i0, .int .i64 a] 23 rfl).new [.int .i64 i1, .int .i64 b] 23 (by simp)).new [.int .i64 i2, .int .i64 c] 23 (by simp)).new [.int .i64 i3, .int .i64 d] 23 (by simp))
  go_enter Tryz.func7, Tryz.ntmps7
  go_wp2_with fail
  refine (R0.out _ (hL.out _ K0.out.1)).mono ?_
  rintro e W1 ⟨rfl, hb⟩
  have K1 := bsb K0 hb
  clear hb K0
  obtain ⟨c1_0_0, c1_0_1⟩ := (bo1 K1).c2
  obtain ⟨c1_1_0, c1_1_1⟩ := (bo2 K1).c2
  obtain ⟨c1_2_0, c1_2_1⟩ := (bo3 K1).c2
  obtain ⟨c1_3_0, c1_3_1⟩ := (bo4 K1).c2
  go_wp2_with fail
  refine (R1.out _ (hL.out _ K1.out.1)).mono ?_
  rintro e W2 ⟨rfl, hb⟩
  have K2 := bsb K1 hb
  clear c1_0_0 c1_0_1 c1_1_0 c1_1_1 c1_2_0 c1_2_1 c1_3_0 c1_3_1
  clear hb K1
  obtain ⟨c2_0_0, c2_0_1⟩ := (bo1 K2).c2
  obtain ⟨c2_1_0, c2_1_1⟩ := (bo2 K2).c2
  obtain ⟨c2_2_0, c2_2_1⟩ := (bo3 K2).c2
  obtain ⟨c2_3_0, c2_3_1⟩ := (bo4 K2).c2
  go_wp2_with fail
  refine (R2.out _ (hL.out _ K2.out.1)).mono ?_
  rintro e W3 ⟨rfl, hb⟩
  have K3 := bsb K2 hb
  clear c2_0_0 c2_0_1 c2_1_0 c2_1_1 c2_2_0 c2_2_1 c2_3_0 c2_3_1
  clear hb K2
  obtain ⟨c3_0_0, c3_0_1⟩ := (bo1 K3).c2
  obtain ⟨c3_1_0, c3_1_1⟩ := (bo2 K3).c2
  obtain ⟨c3_2_0, c3_2_1⟩ := (bo3 K3).c2
  obtain ⟨c3_3_0, c3_3_1⟩ := (bo4 K3).c2
  go_wp2
  go_ret2
  exact ⟨rfl, K3.out.1⟩

set_option maxRecDepth 100000 in
set_option maxHeartbeats 4000000 in
theorem ov_no3 (i0 a i1 b i2 c i3 d : Int)
    (R0 : Hid (∀ w : World, Cvl.Lens w → Calls Tryz.prog 20 #[.agg #[.int .i64 i0, .int .i64 a]] w fun r' w' => r' = .returned (.bool true) ∧ Below w.heap.size w w'))
    (R1 : Hid (∀ w : World, Cvl.Lens w → Calls Tryz.prog 20 #[.agg #[.int .i64 i1, .int .i64 b]] w fun r' w' => r' = .returned (.bool true) ∧ Below w.heap.size w w'))
    (R2 : Hid (∀ w : World, Cvl.Lens w → Calls Tryz.prog 20 #[.agg #[.int .i64 i2, .int .i64 c]] w fun r' w' => r' = .returned (.bool true) ∧ Below w.heap.size w w'))
    (R3 : Hid (∀ w : World, Cvl.Lens w → Calls Tryz.prog 20 #[.agg #[.int .i64 i3, .int .i64 d]] w fun r' w' => r' = .returned (.bool false) ∧ Below w.heap.size w w'))
    (w : World) (hL : Hid (∀ W : World, Below w.heap.size w W → Cvl.Lens W)) :
    Calls Tryz.prog 7 #[.agg #[.int .i64 i0, .int .i64 a], .agg #[.int .i64 i1, .int .i64 b], .agg #[.int .i64 i2, .int .i64 c], .agg #[.int .i64 i3, .int .i64 d]] w fun r' w' => r' = .returned (.tuple #[.bool false, .int .i64 1]) ∧ Below w.heap.size w w' := by
  have K0 : Hid (BS w [(w.heap.size + 3, [.int .i64 i3, .int .i64 d]), (w.heap.size + 2, [.int .i64 i2, .int .i64 c]), (w.heap.size + 1, [.int .i64 i1, .int .i64 b]), (w.heap.size, [.int .i64 i0, .int .i64 a])] ((((w.alloc (.cells #[.int .i64 i0, .int .i64 a] 23)).alloc (.cells #[.int .i64 i1, .int .i64 b] 23)).alloc (.cells #[.int .i64 i2, .int .i64 c] 23)).alloc (.cells #[.int .i64 i3, .int .i64 d] 23))) := (((((BS.start w).new [.int .i64 i0, .int .i64 a] 23 rfl).new [.int .i64 i1, .int .i64 b] 23 (by simp)).new [.int .i64 i2, .int .i64 c] 23 (by simp)).new [.int .i64 i3, .int .i64 d] 23 (by simp))
  go_enter Tryz.func7, Tryz.ntmps7
  go_wp2_with fail
  refine (R0.out _ (hL.out _ K0.out.1)).mono ?_
  rintro e W1 ⟨rfl, hb⟩
  have K1 := bsb K0 hb
  clear hb K0
  obtain ⟨c1_0_0, c1_0_1⟩ := (bo1 K1).c2
  obtain ⟨c1_1_0, c1_1_1⟩ := (bo2 K1).c2
  obtain ⟨c1_2_0, c1_2_1⟩ := (bo3 K1).c2
  obtain ⟨c1_3_0, c1_3_1⟩ := (bo4 K1).c2
  go_wp2_with fail
  refine (R1.out _ (hL.out _ K1.out.1)).mono ?_
  rintro e W2 ⟨rfl, hb⟩
  have K2 := bsb K1 hb
  clear c1_0_0 c1_0_1 c1_1_0 c1_1_1 c1_2_0 c1_2_1 c1_3_0 c1_3_1
  clear hb K1
  obtain ⟨c2_0_0, c2_0_1⟩ := (bo1 K2).c2
  obtain ⟨c2_1_0, c2_1_1⟩ := (bo2 K2).c2
  obtain ⟨c2_2_0, c2_2_1⟩ := (bo3 K2).c2
  obtain ⟨c2_3_0, c2_3_1⟩ := (bo4 K2).c2
  go_wp2_with fail
  refine (R2.out _ (hL.out _ K2.out.1)).mono ?_
  rintro e W3 ⟨rfl, hb⟩
  have K3 := bsb K2 hb
  clear c2_0_0 c2_0_1 c2_1_0 c2_1_1 c2_2_0 c2_2_1 c2_3_0 c2_3_1
  clear hb K2
  obtain ⟨c3_0_0, c3_0_1⟩ := (bo1 K3).c2
  obtain ⟨c3_1_0, c3_1_1⟩ := (bo2 K3).c2
  obtain ⟨c3_2_0, c3_2_1⟩ := (bo3 K3).c2
  obtain ⟨c3_3_0, c3_3_1⟩ := (bo4 K3).c2
  go_wp2_with fail
  refine (R3.out _ (hL.out _ K3.out.1)).mono ?_
  rintro e W4 ⟨rfl, hb⟩
  have K4 := bsb K3 hb
  clear c3_0_0 c3_0_1 c3_1_0 c3_1_1 c3_2_0 c3_2_1 c3_3_0 c3_3_1
  clear hb K3
  obtain ⟨c4_0_0, c4_0_1⟩ := (bo1 K4).c2
  obtain ⟨c4_1_0, c4_1_1⟩ := (bo2 K4).c2
  obtain ⟨c4_2_0, c4_2_1⟩ := (bo3 K4).c2
  obtain ⟨c4_3_0, c4_3_1⟩ := (bo4 K4).c2
  go_wp2
  go_ret2
  exact ⟨rfl, K4.out.1⟩

set_option maxRecDepth 100000 in
set_option maxHeartbeats 4000000 in
theorem ov_m (i0 a i1 b i2 c i3 d p x q y r z s t v u : Int) (ho : v = -1)
    (R0 : Hid (∀ w : World, Cvl.Lens w → Calls Tryz.prog 20 #[.agg #[.int .i64 i0, .int .i64 a]] w fun r' w' => r' = .returned (.bool true) ∧ Below w.heap.size w w'))
    (R1 : Hid (∀ w : World, Cvl.Lens w → Calls Tryz.prog 20 #[.agg #[.int .i64 i1, .int .i64 b]] w fun r' w' => r' = .returned (.bool true) ∧ Below w.heap.size w w'))
    (R2 : Hid (∀ w : World, Cvl.Lens w → Calls Tryz.prog 20 #[.agg #[.int .i64 i2, .int .i64 c]] w fun r' w' => r' = .returned (.bool true) ∧ Below w.heap.size w w'))
    (R3 : Hid (∀ w : World, Cvl.Lens w → Calls Tryz.prog 20 #[.agg #[.int .i64 i3, .int .i64 d]] w fun r' w' => r' = .returned (.bool true) ∧ Below w.heap.size w w'))
    (IA : Hid (∀ w : World, Cvl.Lens w → Calls Tryz.prog 21 #[.agg #[.int .i64 i0, .int .i64 a], .agg #[.int .i64 i1, .int .i64 b]] w fun r' w' => r' = .returned (.tuple #[.agg #[.int .i64 p, .int .i64 x], .agg #[.int .i64 q, .int .i64 y]]) ∧ Below w.heap.size w w'))
    (IC : Hid (∀ w : World, Cvl.Lens w → Calls Tryz.prog 21 #[.agg #[.int .i64 i2, .int .i64 c], .agg #[.int .i64 i3, .int .i64 d]] w fun r' w' => r' = .returned (.tuple #[.agg #[.int .i64 r, .int .i64 z], .agg #[.int .i64 s, .int .i64 t]]) ∧ Below w.heap.size w w'))
    (C1 : Hid (∀ w : World, Cvl.Lens w → Calls Tryz.prog 22 #[.agg #[.int .i64 p, .int .i64 x], .agg #[.int .i64 r, .int .i64 z]] w fun r' w' => r' = .returned (.int .i64 v) ∧ Below w.heap.size w w'))
    (C2 : Hid (∀ w : World, Cvl.Lens w → Calls Tryz.prog 22 #[.agg #[.int .i64 r, .int .i64 z], .agg #[.int .i64 q, .int .i64 y]] w fun r' w' => r' = .returned (.int .i64 u) ∧ Below w.heap.size w w'))
    (w : World) (hL : Hid (∀ W : World, Below w.heap.size w W → Cvl.Lens W)) :
    Calls Tryz.prog 7 #[.agg #[.int .i64 i0, .int .i64 a], .agg #[.int .i64 i1, .int .i64 b], .agg #[.int .i64 i2, .int .i64 c], .agg #[.int .i64 i3, .int .i64 d]] w fun r' w' => r' = .returned (.tuple #[.bool (decide (u < 0)), .int .i64 0]) ∧ Below w.heap.size w w' := by
  subst ho
  have K0 : Hid (BS w [(w.heap.size + 3, [.int .i64 i3, .int .i64 d]), (w.heap.size + 2, [.int .i64 i2, .int .i64 c]), (w.heap.size + 1, [.int .i64 i1, .int .i64 b]), (w.heap.size, [.int .i64 i0, .int .i64 a])] ((((w.alloc (.cells #[.int .i64 i0, .int .i64 a] 23)).alloc (.cells #[.int .i64 i1, .int .i64 b] 23)).alloc (.cells #[.int .i64 i2, .int .i64 c] 23)).alloc (.cells #[.int .i64 i3, .int .i64 d] 23))) := (((((BS.start w).new [.int .i64 i0, .int .i64 a] 23 rfl).new [.int .i64 i1, .int .i64 b] 23 (by simp)).new [.int .i64 i2, .int .i64 c] 23 (by simp)).new [.int .i64 i3, .int .i64 d] 23 (by simp))
  go_enter Tryz.func7, Tryz.ntmps7
  go_wp2_with fail
  refine (R0.out _ (hL.out _ K0.out.1)).mono ?_
  rintro e W1 ⟨rfl, hb⟩
  have K1 := bsb K0 hb
  clear hb K0
  obtain ⟨c1_0_0, c1_0_1⟩ := (bo1 K1).c2
  obtain ⟨c1_1_0, c1_1_1⟩ := (bo2 K1).c2
  obtain ⟨c1_2_0, c1_2_1⟩ := (bo3 K1).c2
  obtain ⟨c1_3_0, c1_3_1⟩ := (bo4 K1).c2
  go_wp2_with fail
  refine (R1.out _ (hL.out _ K1.out.1)).mono ?_
  rintro e W2 ⟨rfl, hb⟩
  have K2 := bsb K1 hb
  clear c1_0_0 c1_0_1 c1_1_0 c1_1_1 c1_2_0 c1_2_1 c1_3_0 c1_3_1
  clear hb K1
  obtain ⟨c2_0_0, c2_0_1⟩ := (bo1 K2).c2
  obtain ⟨c2_1_0, c2_1_1⟩ := (bo2 K2).c2
  obtain ⟨c2_2_0, c2_2_1⟩ := (bo3 K2).c2
  obtain ⟨c2_3_0, c2_3_1⟩ := (bo4 K2).c2
  go_wp2_with fail
  refine (R2.out _ (hL.out _ K2.out.1)).mono ?_
  rintro e W3 ⟨rfl, hb⟩
  have K3 := bsb K2 hb
  clear c2_0_0 c2_0_1 c2_1_0 c2_1_1 c2_2_0 c2_2_1 c2_3_0 c2_3_1
  clear hb K2
  obtain ⟨c3_0_0, c3_0_1⟩ := (bo1 K3).c2
  obtain ⟨c3_1_0, c3_1_1⟩ := (bo2 K3).c2
  obtain ⟨c3_2_0, c3_2_1⟩ := (bo3 K3).c2
  obtain ⟨c3_3_0, c3_3_1⟩ := (bo4 K3).c2
  go_wp2_with fail
  refine (R3.out _ (hL.out _ K3.out.1)).mono ?_
  rintro e W4 ⟨rfl, hb⟩
  have K4 := bsb K3 hb
  clear c3_0_0 c3_0_1 c3_1_0 c3_1_1 c3_2_0 c3_2_1 c3_3_0 c3_3_1
  clear hb K3
  obtain ⟨c4_0_0, c4_0_1⟩ := (bo1 K4).c2
  obtain ⟨c4_1_0, c4_1_1⟩ := (bo2 K4).c2
  obtain ⟨c4_2_0, c4_2_1⟩ := (bo3 K4).c2
  obtain ⟨c4_3_0, c4_3_1⟩ := (bo4 K4).c2
  go_wp2_with fail
  refine (IA.out _ (hL.out _ K4.out.1)).mono ?_
  rintro e W5 ⟨rfl, hb⟩
  have K5 := bsb K4 hb
  clear c4_0_0 c4_0_1 c4_1_0 c4_1_1 c4_2_0 c4_2_1 c4_3_0 c4_3_1
  clear hb K4
  obtain ⟨c5_0_0, c5_0_1⟩ := (bo1 K5).c2
  obtain ⟨c5_1_0, c5_1_1⟩ := (bo2 K5).c2
  obtain ⟨c5_2_0, c5_2_1⟩ := (bo3 K5).c2
  obtain ⟨c5_3_0, c5_3_1⟩ := (bo4 K5).c2
  clear c5_0_0 c5_0_1 c5_1_0 c5_1_1 c5_2_0 c5_2_1 c5_3_0 c5_3_1
  have r5_1_0 : W5.cell? ⟨w.heap.size, 0, none⟩ = some (.int .i64 i0) := (K5.out.at (w.heap.size) [.int .i64 i0, .int .i64 a] (by simp)).c 0 rfl
  have sr5_1_0 : W5.frozen? ⟨w.heap.size, 0, none⟩ = false := (K5.out.at (w.heap.size) [.int .i64 i0, .int .i64 a] (by simp)).f 0 rfl
  have r5_1_1 : W5.cell? ⟨w.heap.size, 1, none⟩ = some (.int .i64 a) := (K5.out.at (w.heap.size) [.int .i64 i0, .int .i64 a] (by simp)).c 1 rfl
  have sr5_1_1 : W5.frozen? ⟨w.heap.size, 1, none⟩ = false := (K5.out.at (w.heap.size) [.int .i64 i0, .int .i64 a] (by simp)).f 1 rfl
  have r5_2_0 : W5.cell? ⟨w.heap.size + 1, 0, none⟩ = some (.int .i64 i1) := (K5.out.at (w.heap.size + 1) [.int .i64 i1, .int .i64 b] (by simp)).c 0 rfl
  have sr5_2_0 : W5.frozen? ⟨w.heap.size + 1, 0, none⟩ = false := (K5.out.at (w.heap.size + 1) [.int .i64 i1, .int .i64 b] (by simp)).f 0 rfl
  have r5_2_1 : W5.cell? ⟨w.heap.size + 1, 1, none⟩ = some (.int .i64 b) := (K5.out.at (w.heap.size + 1) [.int .i64 i1, .int .i64 b] (by simp)).c 1 rfl
  have sr5_2_1 : W5.frozen? ⟨w.heap.size + 1, 1, none⟩ = false := (K5.out.at (w.heap.size + 1) [.int .i64 i1, .int .i64 b] (by simp)).f 1 rfl
  have My5 := (K5.out.perm (l' := [(w.heap.size, [.int .i64 i0, .int .i64 a]), (w.heap.size + 1, [.int .i64 i1, .int .i64 b]), (w.heap.size + 3, [.int .i64 i3, .int .i64 d]), (w.heap.size + 2, [.int .i64 i2, .int .i64 c])]) (by intro x hx; simp only [List.mem_cons, List.not_mem_nil, or_false] at hx ⊢; rcases hx with h | h | h | h <;> simp [h])).set [.int .i64 p, .int .i64 x] rfl (by intro x hx; simp only [List.mem_cons, List.not_mem_nil, or_false] at hx; rcases hx with rfl | rfl | rfl <;> simp only [] <;> omega)
  have Mz5 : Hid (BS w [(w.heap.size + 1, [.int .i64 q, .int .i64 y]), (w.heap.size, [.int .i64 p, .int .i64 x]), (w.heap.size + 3, [.int .i64 i3, .int .i64 d]), (w.heap.size + 2, [.int .i64 i2, .int .i64 c])] ((W5.setCells (w.heap.size) 0 [.int .i64 p, .int .i64 x]).setCells (w.heap.size + 1) 0 [.int .i64 q, .int .i64 y])) := (My5.perm (l' := [(w.heap.size + 1, [.int .i64 i1, .int .i64 b]), (w.heap.size, [.int .i64 p, .int .i64 x]), (w.heap.size + 3, [.int .i64 i3, .int .i64 d]), (w.heap.size + 2, [.int .i64 i2, .int .i64 c])]) (by intro x hx; simp only [List.mem_cons, List.not_mem_nil, or_false] at hx ⊢; rcases hx with h | h | h | h <;> simp [h])).set [.int .i64 q, .int .i64 y] rfl (by intro x hx; simp only [List.mem_cons, List.not_mem_nil, or_false] at hx; rcases hx with rfl | rfl | rfl <;> simp only [] <;> omega)
  clear My5
  simp only [World.setCells, Nat.zero_add] at Mz5
  go_upto_region 4 with fail
  refine bs_to Mz5 ?_
  clear r5_1_0 sr5_1_0 r5_1_1 sr5_1_1 r5_2_0 sr5_2_0 r5_2_1 sr5_2_1
  intro W6 K6
  clear Mz5 K5
  obtain ⟨c6_0_0, c6_0_1⟩ := (bo1 K6).c2
  obtain ⟨c6_1_0, c6_1_1⟩ := (bo2 K6).c2
  obtain ⟨c6_2_0, c6_2_1⟩ := (bo3 K6).c2
  obtain ⟨c6_3_0, c6_3_1⟩ := (bo4 K6).c2
  go_wp2_with fail
  refine (IC.out _ (hL.out _ K6.out.1)).mono ?_
  rintro e W7 ⟨rfl, hb⟩
  have K7 := bsb K6 hb
  clear c6_0_0 c6_0_1 c6_1_0 c6_1_1 c6_2_0 c6_2_1 c6_3_0 c6_3_1
  clear hb K6
  obtain ⟨c7_0_0, c7_0_1⟩ := (bo1 K7).c2
  obtain ⟨c7_1_0, c7_1_1⟩ := (bo2 K7).c2
  obtain ⟨c7_2_0, c7_2_1⟩ := (bo3 K7).c2
  obtain ⟨c7_3_0, c7_3_1⟩ := (bo4 K7).c2
  clear c7_0_0 c7_0_1 c7_1_0 c7_1_1 c7_2_0 c7_2_1 c7_3_0 c7_3_1
  have r7_1_0 : W7.cell? ⟨w.heap.size + 2, 0, none⟩ = some (.int .i64 i2) := (K7.out.at (w.heap.size + 2) [.int .i64 i2, .int .i64 c] (by simp)).c 0 rfl
  have sr7_1_0 : W7.frozen? ⟨w.heap.size + 2, 0, none⟩ = false := (K7.out.at (w.heap.size + 2) [.int .i64 i2, .int .i64 c] (by simp)).f 0 rfl
  have r7_1_1 : W7.cell? ⟨w.heap.size + 2, 1, none⟩ = some (.int .i64 c) := (K7.out.at (w.heap.size + 2) [.int .i64 i2, .int .i64 c] (by simp)).c 1 rfl
  have sr7_1_1 : W7.frozen? ⟨w.heap.size + 2, 1, none⟩ = false := (K7.out.at (w.heap.size + 2) [.int .i64 i2, .int .i64 c] (by simp)).f 1 rfl
  have r7_2_0 : W7.cell? ⟨w.heap.size + 3, 0, none⟩ = some (.int .i64 i3) := (K7.out.at (w.heap.size + 3) [.int .i64 i3, .int .i64 d] (by simp)).c 0 rfl
  have sr7_2_0 : W7.frozen? ⟨w.heap.size + 3, 0, none⟩ = false := (K7.out.at (w.heap.size + 3) [.int .i64 i3, .int .i64 d] (by simp)).f 0 rfl
  have r7_2_1 : W7.cell? ⟨w.heap.size + 3, 1, none⟩ = some (.int .i64 d) := (K7.out.at (w.heap.size + 3) [.int .i64 i3, .int .i64 d] (by simp)).c 1 rfl
  have sr7_2_1 : W7.frozen? ⟨w.heap.size + 3, 1, none⟩ = false := (K7.out.at (w.heap.size + 3) [.int .i64 i3, .int .i64 d] (by simp)).f 1 rfl
  have My7 := (K7.out.perm (l' := [(w.heap.size + 2, [.int .i64 i2, .int .i64 c]), (w.heap.size + 3, [.int .i64 i3, .int .i64 d]), (w.heap.size + 1, [.int .i64 q, .int .i64 y]), (w.heap.size, [.int .i64 p, .int .i64 x])]) (by intro x hx; simp only [List.mem_cons, List.not_mem_nil, or_false] at hx ⊢; rcases hx with h | h | h | h <;> simp [h])).set [.int .i64 r, .int .i64 z] rfl (by intro x hx; simp only [List.mem_cons, List.not_mem_nil, or_false] at hx; rcases hx with rfl | rfl | rfl <;> simp only [] <;> omega)
  have Mz7 : Hid (BS w [(w.heap.size + 3, [.int .i64 s, .int .i64 t]), (w.heap.size + 2, [.int .i64 r, .int .i64 z]), (w.heap.size + 1, [.int .i64 q, .int .i64 y]), (w.heap.size, [.int .i64 p, .int .i64 x])] ((W7.setCells (w.heap.size + 2) 0 [.int .i64 r, .int .i64 z]).setCells (w.heap.size + 3) 0 [.int .i64 s, .int .i64 t])) := (My7.perm (l' := [(w.heap.size + 3, [.int .i64 i3, .int .i64 d]), (w.heap.size + 2, [.int .i64 r, .int .i64 z]), (w.heap.size + 1, [.int .i64 q, .int .i64 y]), (w.heap.size, [.int .i64 p, .int .i64 x])]) (by intro x hx; simp only [List.mem_cons, List.not_mem_nil, or_false] at hx ⊢; rcases hx with h | h | h | h <;> simp [h])).set [.int .i64 s, .int .i64 t] rfl (by intro x hx; simp only [List.mem_cons, List.not_mem_nil, or_false] at hx; rcases hx with rfl | rfl | rfl <;> simp only [] <;> omega)
  clear My7
  simp only [World.setCells, Nat.zero_add] at Mz7
  go_upto_region 5 with fail
  refine bs_to Mz7 ?_
  clear r7_1_0 sr7_1_0 r7_1_1 sr7_1_1 r7_2_0 sr7_2_0 r7_2_1 sr7_2_1
  intro W8 K8
  clear Mz7 K7
  obtain ⟨c8_0_0, c8_0_1⟩ := (bo1 K8).c2
  obtain ⟨c8_1_0, c8_1_1⟩ := (bo2 K8).c2
  obtain ⟨c8_2_0, c8_2_1⟩ := (bo3 K8).c2
  obtain ⟨c8_3_0, c8_3_1⟩ := (bo4 K8).c2
  go_wp2_with fail
  refine (C1.out _ (hL.out _ K8.out.1)).mono ?_
  rintro e W9 ⟨rfl, hb⟩
  have K9 := bsb K8 hb
  clear c8_0_0 c8_0_1 c8_1_0 c8_1_1 c8_2_0 c8_2_1 c8_3_0 c8_3_1
  clear hb K8
  obtain ⟨c9_0_0, c9_0_1⟩ := (bo1 K9).c2
  obtain ⟨c9_1_0, c9_1_1⟩ := (bo2 K9).c2
  obtain ⟨c9_2_0, c9_2_1⟩ := (bo3 K9).c2
  obtain ⟨c9_3_0, c9_3_1⟩ := (bo4 K9).c2
  go_wp2_with fail
  refine (C2.out _ (hL.out _ K9.out.1)).mono ?_
  rintro e W10 ⟨rfl, hb⟩
  have K10 := bsb K9 hb
  clear c9_0_0 c9_0_1 c9_1_0 c9_1_1 c9_2_0 c9_2_1 c9_3_0 c9_3_1
  clear hb K9
  obtain ⟨c10_0_0, c10_0_1⟩ := (bo1 K10).c2
  obtain ⟨c10_1_0, c10_1_1⟩ := (bo2 K10).c2
  obtain ⟨c10_2_0, c10_2_1⟩ := (bo3 K10).c2
  obtain ⟨c10_3_0, c10_3_1⟩ := (bo4 K10).c2
  go_wp2
  go_ret2
  exact ⟨rfl, K10.out.1⟩

set_option maxRecDepth 100000 in
set_option maxHeartbeats 4000000 in
theorem ov_p (i0 a i1 b i2 c i3 d p x q y r z s t v u : Int) (ho : v = 1)
    (R0 : Hid (∀ w : World, Cvl.Lens w → Calls Tryz.prog 20 #[.agg #[.int .i64 i0, .int .i64 a]] w fun r' w' => r' = .returned (.bool true) ∧ Below w.heap.size w w'))
    (R1 : Hid (∀ w : World, Cvl.Lens w → Calls Tryz.prog 20 #[.agg #[.int .i64 i1, .int .i64 b]] w fun r' w' => r' = .returned (.bool true) ∧ Below w.heap.size w w'))
    (R2 : Hid (∀ w : World, Cvl.Lens w → Calls Tryz.prog 20 #[.agg #[.int .i64 i2, .int .i64 c]] w fun r' w' => r' = .returned (.bool true) ∧ Below w.heap.size w w'))
    (R3 : Hid (∀ w : World, Cvl.Lens w → Calls Tryz.prog 20 #[.agg #[.int .i64 i3, .int .i64 d]] w fun r' w' => r' = .returned (.bool true) ∧ Below w.heap.size w w'))
    (IA : Hid (∀ w : World, Cvl.Lens w → Calls Tryz.prog 21 #[.agg #[.int .i64 i0, .int .i64 a], .agg #[.int .i64 i1, .int .i64 b]] w fun r' w' => r' = .returned (.tuple #[.agg #[.int .i64 p, .int .i64 x], .agg #[.int .i64 q, .int .i64 y]]) ∧ Below w.heap.size w w'))
    (IC : Hid (∀ w : World, Cvl.Lens w → Calls Tryz.prog 21 #[.agg #[.int .i64 i2, .int .i64 c], .agg #[.int .i64 i3, .int .i64 d]] w fun r' w' => r' = .returned (.tuple #[.agg #[.int .i64 r, .int .i64 z], .agg #[.int .i64 s, .int .i64 t]]) ∧ Below w.heap.size w w'))
    (C1 : Hid (∀ w : World, Cvl.Lens w → Calls Tryz.prog 22 #[.agg #[.int .i64 p, .int .i64 x], .agg #[.int .i64 r, .int .i64 z]] w fun r' w' => r' = .returned (.int .i64 v) ∧ Below w.heap.size w w'))
    (C2 : Hid (∀ w : World, Cvl.Lens w → Calls Tryz.prog 22 #[.agg #[.int .i64 p, .int .i64 x], .agg #[.int .i64 s, .int .i64 t]] w fun r' w' => r' = .returned (.int .i64 u) ∧ Below w.heap.size w w'))
    (w : World) (hL : Hid (∀ W : World, Below w.heap.size w W → Cvl.Lens W)) :
    Calls Tryz.prog 7 #[.agg #[.int .i64 i0, .int .i64 a], .agg #[.int .i64 i1, .int .i64 b], .agg #[.int .i64 i2, .int .i64 c], .agg #[.int .i64 i3, .int .i64 d]] w fun r' w' => r' = .returned (.tuple #[.bool (decide (u < 0)), .int .i64 0]) ∧ Below w.heap.size w w' := by
  subst ho
  have K0 : Hid (BS w [(w.heap.size + 3, [.int .i64 i3, .int .i64 d]), (w.heap.size + 2, [.int .i64 i2, .int .i64 c]), (w.heap.size + 1, [.int .i64 i1, .int .i64 b]), (w.heap.size, [.int .i64 i0, .int .i64 a])] ((((w.alloc (.cells #[.int .i64 i0, .int .i64 a] 23)).alloc (.cells #[.int .i64 i1, .int .i64 b] 23)).alloc (.cells #[.int .i64 i2, .int .i64 c] 23)).alloc (.cells #[.int .i64 i3, .int .i64 d] 23))) := (((((BS.start w).new [.int .i64 i0, .int .i64 a] 23 rfl).new [.int .i64 i1, .int .i64 b] 23 (by simp)).new [.int .i64 i2, .int .i64 c] 23 (by simp)).new [.int .i64 i3, .int .i64 d] 23 (by simp))
  go_enter Tryz.func7, Tryz.ntmps7
  go_wp2_with fail
  refine (R0.out _ (hL.out _ K0.out.1)).mono ?_
  rintro e W1 ⟨rfl, hb⟩
  have K1 := bsb K0 hb
  clear hb K0
  obtain ⟨c1_0_0, c1_0_1⟩ := (bo1 K1).c2
  obtain ⟨c1_1_0, c1_1_1⟩ := (bo2 K1).c2
  obtain ⟨c1_2_0, c1_2_1⟩ := (bo3 K1).c2
  obtain ⟨c1_3_0, c1_3_1⟩ := (bo4 K1).c2
  go_wp2_with fail
  refine (R1.out _ (hL.out _ K1.out.1)).mono ?_
  rintro e W2 ⟨rfl, hb⟩
  have K2 := bsb K1 hb
  clear c1_0_0 c1_0_1 c1_1_0 c1_1_1 c1_2_0 c1_2_1 c1_3_0 c1_3_1
  clear hb K1
  obtain ⟨c2_0_0, c2_0_1⟩ := (bo1 K2).c2
  obtain ⟨c2_1_0, c2_1_1⟩ := (bo2 K2).c2
  obtain ⟨c2_2_0, c2_2_1⟩ := (bo3 K2).c2
  obtain ⟨c2_3_0, c2_3_1⟩ := (bo4 K2).c2
  go_wp2_with fail
  refine (R2.out _ (hL.out _ K2.out.1)).mono ?_
  rintro e W3 ⟨rfl, hb⟩
  have K3 := bsb K2 hb
  clear c2_0_0 c2_0_1 c2_1_0 c2_1_1 c2_2_0 c2_2_1 c2_3_0 c2_3_1
  clear hb K2
  obtain ⟨c3_0_0, c3_0_1⟩ := (bo1 K3).c2
  obtain ⟨c3_1_0, c3_1_1⟩ := (bo2 K3).c2
  obtain ⟨c3_2_0, c3_2_1⟩ := (bo3 K3).c2
  obtain ⟨c3_3_0, c3_3_1⟩ := (bo4 K3).c2
  go_wp2_with fail
  refine (R3.out _ (hL.out _ K3.out.1)).mono ?_
  rintro e W4 ⟨rfl, hb⟩
  have K4 := bsb K3 hb
  clear c3_0_0 c3_0_1 c3_1_0 c3_1_1 c3_2_0 c3_2_1 c3_3_0 c3_3_1
  clear hb K3
  obtain ⟨c4_0_0, c4_0_1⟩ := (bo1 K4).c2
  obtain ⟨c4_1_0, c4_1_1⟩ := (bo2 K4).c2
  obtain ⟨c4_2_0, c4_2_1⟩ := (bo3 K4).c2
  obtain ⟨c4_3_0, c4_3_1⟩ := (bo4 K4).c2
  go_wp2_with fail
  refine (IA.out _ (hL.out _ K4.out.1)).mono ?_
  rintro e W5 ⟨rfl, hb⟩
  have K5 := bsb K4 hb
  clear c4_0_0 c4_0_1 c4_1_0 c4_1_1 c4_2_0 c4_2_1 c4_3_0 c4_3_1
  clear hb K4
  obtain ⟨c5_0_0, c5_0_1⟩ := (bo1 K5).c2
  obtain ⟨c5_1_0, c5_1_1⟩ := (bo2 K5).c2
  obtain ⟨c5_2_0, c5_2_1⟩ := (bo3 K5).c2
  obtain ⟨c5_3_0, c5_3_1⟩ := (bo4 K5).c2
  clear c5_0_0 c5_0_1 c5_1_0 c5_1_1 c5_2_0 c5_2_1 c5_3_0 c5_3_1
  have r5_1_0 : W5.cell? ⟨w.heap.size, 0, none⟩ = some (.int .i64 i0) := (K5.out.at (w.heap.size) [.int .i64 i0, .int .i64 a] (by simp)).c 0 rfl
  have sr5_1_0 : W5.frozen? ⟨w.heap.size, 0, none⟩ = false := (K5.out.at (w.heap.size) [.int .i64 i0, .int .i64 a] (by simp)).f 0 rfl
  have r5_1_1 : W5.cell? ⟨w.heap.size, 1, none⟩ = some (.int .i64 a) := (K5.out.at (w.heap.size) [.int .i64 i0, .int .i64 a] (by simp)).c 1 rfl
  have sr5_1_1 : W5.frozen? ⟨w.heap.size, 1, none⟩ = false := (K5.out.at (w.heap.size) [.int .i64 i0, .int .i64 a] (by simp)).f 1 rfl
  have r5_2_0 : W5.cell? ⟨w.heap.size + 1, 0, none⟩ = some (.int .i64 i1) := (K5.out.at (w.heap.size + 1) [.int .i64 i1, .int .i64 b] (by simp)).c 0 rfl
  have sr5_2_0 : W5.frozen? ⟨w.heap.size + 1, 0, none⟩ = false := (K5.out.at (w.heap.size + 1) [.int .i64 i1, .int .i64 b] (by simp)).f 0 rfl
  have r5_2_1 : W5.cell? ⟨w.heap.size + 1, 1, none⟩ = some (.int .i64 b) := (K5.out.at (w.heap.size + 1) [.int .i64 i1, .int .i64 b] (by simp)).c 1 rfl
  have sr5_2_1 : W5.frozen? ⟨w.heap.size + 1, 1, none⟩ = false := (K5.out.at (w.heap.size + 1) [.int .i64 i1, .int .i64 b] (by simp)).f 1 rfl
  have My5 := (K5.out.perm (l' := [(w.heap.size, [.int .i64 i0, .int .i64 a]), (w.heap.size + 1, [.int .i64 i1, .int .i64 b]), (w.heap.size + 3, [.int .i64 i3, .int .i64 d]), (w.heap.size + 2, [.int .i64 i2, .int .i64 c])]) (by intro x hx; simp only [List.mem_cons, List.not_mem_nil, or_false] at hx ⊢; rcases hx with h | h | h | h <;> simp [h])).set [.int .i64 p, .int .i64 x] rfl (by intro x hx; simp only [List.mem_cons, List.not_mem_nil, or_false] at hx; rcases hx with rfl | rfl | rfl <;> simp only [] <;> omega)
  have Mz5 : Hid (BS w [(w.heap.size + 1, [.int .i64 q, .int .i64 y]), (w.heap.size, [.int .i64 p, .int .i64 x]), (w.heap.size + 3, [.int .i64 i3, .int .i64 d]), (w.heap.size + 2, [.int .i64 i2, .int .i64 c])] ((W5.setCells (w.heap.size) 0 [.int .i64 p, .int .i64 x]).setCells (w.heap.size + 1) 0 [.int .i64 q, .int .i64 y])) := (My5.perm (l' := [(w.heap.size + 1, [.int .i64 i1, .int .i64 b]), (w.heap.size, [.int .i64 p, .int .i64 x]), (w.heap.size + 3, [.int .i64 i3, .int .i64 d]), (w.heap.size + 2, [.int .i64 i2, .int .i64 c])]) (by intro x hx; simp only [List.mem_cons, List.not_mem_nil, or_false] at hx ⊢; rcases hx with h | h | h | h <;> simp [h])).set [.int .i64 q, .int .i64 y] rfl (by intro x hx; simp only [List.mem_cons, List.not_mem_nil, or_false] at hx; rcases hx with rfl | rfl | rfl <;> simp only [] <;> omega)
  clear My5
  simp only [World.setCells, Nat.zero_add] at Mz5
  go_upto_region 4 with fail
  refine bs_to Mz5 ?_
  clear r5_1_0 sr5_1_0 r5_1_1 sr5_1_1 r5_2_0 sr5_2_0 r5_2_1 sr5_2_1
  intro W6 K6
  clear Mz5 K5
  obtain ⟨c6_0_0, c6_0_1⟩ := (bo1 K6).c2
  obtain ⟨c6_1_0, c6_1_1⟩ := (bo2 K6).c2
  obtain ⟨c6_2_0, c6_2_1⟩ := (bo3 K6).c2
  obtain ⟨c6_3_0, c6_3_1⟩ := (bo4 K6).c2
  go_wp2_with fail
  refine (IC.out _ (hL.out _ K6.out.1)).mono ?_
  rintro e W7 ⟨rfl, hb⟩
  have K7 := bsb K6 hb
  clear c6_0_0 c6_0_1 c6_1_0 c6_1_1 c6_2_0 c6_2_1 c6_3_0 c6_3_1
  clear hb K6
  obtain ⟨c7_0_0, c7_0_1⟩ := (bo1 K7).c2
  obtain ⟨c7_1_0, c7_1_1⟩ := (bo2 K7).c2
  obtain ⟨c7_2_0, c7_2_1⟩ := (bo3 K7).c2
  obtain ⟨c7_3_0, c7_3_1⟩ := (bo4 K7).c2
  clear c7_0_0 c7_0_1 c7_1_0 c7_1_1 c7_2_0 c7_2_1 c7_3_0 c7_3_1
  have r7_1_0 : W7.cell? ⟨w.heap.size + 2, 0, none⟩ = some (.int .i64 i2) := (K7.out.at (w.heap.size + 2) [.int .i64 i2, .int .i64 c] (by simp)).c 0 rfl
  have sr7_1_0 : W7.frozen? ⟨w.heap.size + 2, 0, none⟩ = false := (K7.out.at (w.heap.size + 2) [.int .i64 i2, .int .i64 c] (by simp)).f 0 rfl
  have r7_1_1 : W7.cell? ⟨w.heap.size + 2, 1, none⟩ = some (.int .i64 c) := (K7.out.at (w.heap.size + 2) [.int .i64 i2, .int .i64 c] (by simp)).c 1 rfl
  have sr7_1_1 : W7.frozen? ⟨w.heap.size + 2, 1, none⟩ = false := (K7.out.at (w.heap.size + 2) [.int .i64 i2, .int .i64 c] (by simp)).f 1 rfl
  have r7_2_0 : W7.cell? ⟨w.heap.size + 3, 0, none⟩ = some (.int .i64 i3) := (K7.out.at (w.heap.size + 3) [.int .i64 i3, .int .i64 d] (by simp)).c 0 rfl
  have sr7_2_0 : W7.frozen? ⟨w.heap.size + 3, 0, none⟩ = false := (K7.out.at (w.heap.size + 3) [.int .i64 i3, .int .i64 d] (by simp)).f 0 rfl
  have r7_2_1 : W7.cell? ⟨w.heap.size + 3, 1, none⟩ = some (.int .i64 d) := (K7.out.at (w.heap.size + 3) [.int .i64 i3, .int .i64 d] (by simp)).c 1 rfl
  have sr7_2_1 : W7.frozen? ⟨w.heap.size + 3, 1, none⟩ = false := (K7.out.at (w.heap.size + 3) [.int .i64 i3, .int .i64 d] (by simp)).f 1 rfl
  have My7 := (K7.out.perm (l' := [(w.heap.size + 2, [.int .i64 i2, .int .i64 c]), (w.heap.size + 3, [.int .i64 i3, .int .i64 d]), (w.heap.size + 1, [.int .i64 q, .int .i64 y]), (w.heap.size, [.int .i64 p, .int .i64 x])]) (by intro x hx; simp only [List.mem_cons, List.not_mem_nil, or_false] at hx ⊢; rcases hx with h | h | h | h <;> simp [h])).set [.int .i64 r, .int .i64 z] rfl (by intro x hx; simp only [List.mem_cons, List.not_mem_nil, or_false] at hx; rcases hx with rfl | rfl | rfl <;> simp only [] <;> omega)
  have Mz7 : Hid (BS w [(w.heap.size + 3, [.int .i64 s, .int .i64 t]), (w.heap.size + 2, [.int .i64 r, .int .i64 z]), (w.heap.size + 1, [.int .i64 q, .int .i64 y]), (w.heap.size, [.int .i64 p, .int .i64 x])] ((W7.setCells (w.heap.size + 2) 0 [.int .i64 r, .int .i64 z]).setCells (w.heap.size + 3) 0 [.int .i64 s, .int .i64 t])) := (My7.perm (l' := [(w.heap.size + 3, [.int .i64 i3, .int .i64 d]), (w.heap.size + 2, [.int .i64 r, .int .i64 z]), (w.heap.size + 1, [.int .i64 q, .int .i64 y]), (w.heap.size, [.int .i64 p, .int .i64 x])]) (by intro x hx; simp only [List.mem_cons, List.not_mem_nil, or_false] at hx ⊢; rcases hx with h | h | h | h <;> simp [h])).set [.int .i64 s, .int .i64 t] rfl (by intro x hx; simp only [List.mem_cons, List.not_mem_nil, or_false] at hx; rcases hx with rfl | rfl | rfl <;> simp only [] <;> omega)
  clear My7
  simp only [World.setCells, Nat.zero_add] at Mz7
  go_upto_region 5 with fail
  refine bs_to Mz7 ?_
  clear r7_1_0 sr7_1_0 r7_1_1 sr7_1_1 r7_2_0 sr7_2_0 r7_2_1 sr7_2_1
  intro W8 K8
  clear Mz7 K7
  obtain ⟨c8_0_0, c8_0_1⟩ := (bo1 K8).c2
  obtain ⟨c8_1_0, c8_1_1⟩ := (bo2 K8).c2
  obtain ⟨c8_2_0, c8_2_1⟩ := (bo3 K8).c2
  obtain ⟨c8_3_0, c8_3_1⟩ := (bo4 K8).c2
  go_wp2_with fail
  refine (C1.out _ (hL.out _ K8.out.1)).mono ?_
  rintro e W9 ⟨rfl, hb⟩
  have K9 := bsb K8 hb
  clear c8_0_0 c8_0_1 c8_1_0 c8_1_1 c8_2_0 c8_2_1 c8_3_0 c8_3_1
  clear hb K8
  obtain ⟨c9_0_0, c9_0_1⟩ := (bo1 K9).c2
  obtain ⟨c9_1_0, c9_1_1⟩ := (bo2 K9).c2
  obtain ⟨c9_2_0, c9_2_1⟩ := (bo3 K9).c2
  obtain ⟨c9_3_0, c9_3_1⟩ := (bo4 K9).c2
  go_wp2_with fail
  refine (C2.out _ (hL.out _ K9.out.1)).mono ?_
  rintro e W10 ⟨rfl, hb⟩
  have K10 := bsb K9 hb
  clear c9_0_0 c9_0_1 c9_1_0 c9_1_1 c9_2_0 c9_2_1 c9_3_0 c9_3_1
  clear hb K9
  obtain ⟨c10_0_0, c10_0_1⟩ := (bo1 K10).c2
  obtain ⟨c10_1_0, c10_1_1⟩ := (bo2 K10).c2
  obtain ⟨c10_2_0, c10_2_1⟩ := (bo3 K10).c2
  obtain ⟨c10_3_0, c10_3_1⟩ := (bo4 K10).c2
  go_wp2
  go_ret2
  exact ⟨rfl, K10.out.1⟩

set_option maxRecDepth 100000 in
set_option maxHeartbeats 4000000 in
theorem ov_z (i0 a i1 b i2 c i3 d p x q y r z s t v u : Int) (ho : v = 0)
    (R0 : Hid (∀ w : World, Cvl.Lens w → Calls Tryz.prog 20 #[.agg #[.int .i64 i0, .int .i64 a]] w fun r' w' => r' = .returned (.bool true) ∧ Below w.heap.size w w'))
    (R1 : Hid (∀ w : World, Cvl.Lens w → Calls Tryz.prog 20 #[.agg #[.int .i64 i1, .int .i64 b]] w fun r' w' => r' = .returned (.bool true) ∧ Below w.heap.size w w'))
    (R2 : Hid (∀ w : World, Cvl.Lens w → Calls Tryz.prog 20 #[.agg #[.int .i64 i2, .int .i64 c]] w fun r' w' => r' = .returned (.bool true) ∧ Below w.heap.size w w'))
    (R3 : Hid (∀ w : World, Cvl.Lens w → Calls Tryz.prog 20 #[.agg #[.int .i64 i3, .int .i64 d]] w fun r' w' => r' = .returned (.bool true) ∧ Below w.heap.size w w'))
    (IA : Hid (∀ w : World, Cvl.Lens w → Calls Tryz.prog 21 #[.agg #[.int .i64 i0, .int .i64 a], .agg #[.int .i64 i1, .int .i64 b]] w fun r' w' => r' = .returned (.tuple #[.agg #[.int .i64 p, .int .i64 x], .agg #[.int .i64 q, .int .i64 y]]) ∧ Below w.heap.size w w'))
    (IC : Hid (∀ w : World, Cvl.Lens w → Calls Tryz.prog 21 #[.agg #[.int .i64 i2, .int .i64 c], .agg #[.int .i64 i3, .int .i64 d]] w fun r' w' => r' = .returned (.tuple #[.agg #[.int .i64 r, .int .i64 z], .agg #[.int .i64 s, .int .i64 t]]) ∧ Below w.heap.size w w'))
    (C1 : Hid (∀ w : World, Cvl.Lens w → Calls Tryz.prog 22 #[.agg #[.int .i64 p, .int .i64 x], .agg #[.int .i64 r, .int .i64 z]] w fun r' w' => r' = .returned (.int .i64 v) ∧ Below w.heap.size w w'))
    (w : World) (hL : Hid (∀ W : World, Below w.heap.size w W → Cvl.Lens W)) :
    Calls Tryz.prog 7 #[.agg #[.int .i64 i0, .int .i64 a], .agg #[.int .i64 i1, .int .i64 b], .agg #[.int .i64 i2, .int .i64 c], .agg #[.int .i64 i3, .int .i64 d]] w fun r' w' => r' = .returned (.tuple #[.bool true, .int .i64 0]) ∧ Below w.heap.size w w' := by
  subst ho
  have K0 : Hid (BS w [(w.heap.size + 3, [.int .i64 i3, .int .i64 d]), (w.heap.size + 2, [.int .i64 i2, .int .i64 c]), (w.heap.size + 1, [.int .i64 i1, .int .i64 b]), (w.heap.size, [.int .i64 i0, .int .i64 a])] ((((w.alloc (.cells #[.int .i64 i0, .int .i64 a] 23)).alloc (.cells #[.int .i64 i1, .int .i64 b] 23)).alloc (.cells #[.int .i64 i2, .int .i64 c] 23)).alloc (.cells #[.int .i64 i3, .int .i64 d] 23))) := (((((BS.start w).new [.int .i64 i0, .int .i64 a] 23 rfl).new [.int .i64 i1, .int .i64 b] 23 (by simp)).new [.int .i64 i2, .int .i64 c] 23 (by simp)).new [.int .i64 i3, .int .i64 d] 23 (by simp))
  go_enter Tryz.func7, Tryz.ntmps7
  go_wp2_with fail
  refine (R0.out _ (hL.out _ K0.out.1)).mono ?_
  rintro e W1 ⟨rfl, hb⟩
  have K1 := bsb K0 hb
  clear hb K0
  obtain ⟨c1_0_0, c1_0_1⟩ := (bo1 K1).c2
  obtain ⟨c1_1_0, c1_1_1⟩ := (bo2 K1).c2
  obtain ⟨c1_2_0, c1_2_1⟩ := (bo3 K1).c2
  obtain ⟨c1_3_0, c1_3_1⟩ := (bo4 K1).c2
  go_wp2_with fail
  refine (R1.out _ (hL.out _ K1.out.1)).mono ?_
  rintro e W2 ⟨rfl, hb⟩
  have K2 := bsb K1 hb
  clear c1_0_0 c1_0_1 c1_1_0 c1_1_1 c1_2_0 c1_2_1 c1_3_0 c1_3_1
  clear hb K1
  obtain ⟨c2_0_0, c2_0_1⟩ := (bo1 K2).c2
  obtain ⟨c2_1_0, c2_1_1⟩ := (bo2 K2).c2
  obtain ⟨c2_2_0, c2_2_1⟩ := (bo3 K2).c2
  obtain ⟨c2_3_0, c2_3_1⟩ := (bo4 K2).c2
  go_wp2_with fail
  refine (R2.out _ (hL.out _ K2.out.1)).mono ?_
  rintro e W3 ⟨rfl, hb⟩
  have K3 := bsb K2 hb
  clear c2_0_0 c2_0_1 c2_1_0 c2_1_1 c2_2_0 c2_2_1 c2_3_0 c2_3_1
  clear hb K2
  obtain ⟨c3_0_0, c3_0_1⟩ := (bo1 K3).c2
  obtain ⟨c3_1_0, c3_1_1⟩ := (bo2 K3).c2
  obtain ⟨c3_2_0, c3_2_1⟩ := (bo3 K3).c2
  obtain ⟨c3_3_0, c3_3_1⟩ := (bo4 K3).c2
  go_wp2_with fail
  refine (R3.out _ (hL.out _ K3.out.1)).mono ?_
  rintro e W4 ⟨rfl, hb⟩
  have K4 := bsb K3 hb
  clear c3_0_0 c3_0_1 c3_1_0 c3_1_1 c3_2_0 c3_2_1 c3_3_0 c3_3_1
  clear hb K3
  obtain ⟨c4_0_0, c4_0_1⟩ := (bo1 K4).c2
  obtain ⟨c4_1_0, c4_1_1⟩ := (bo2 K4).c2
  obtain ⟨c4_2_0, c4_2_1⟩ := (bo3 K4).c2
  obtain ⟨c4_3_0, c4_3_1⟩ := (bo4 K4).c2
  go_wp2_with fail
  refine (IA.out _ (hL.out _ K4.out.1)).mono ?_
  rintro e W5 ⟨rfl, hb⟩
  have K5 := bsb K4 hb
  clear c4_0_0 c4_0_1 c4_1_0 c4_1_1 c4_2_0 c4_2_1 c4_3_0 c4_3_1
  clear hb K4
  obtain ⟨c5_0_0, c5_0_1⟩ := (bo1 K5).c2
  obtain ⟨c5_1_0, c5_1_1⟩ := (bo2 K5).c2
  obtain ⟨c5_2_0, c5_2_1⟩ := (bo3 K5).c2
  obtain ⟨c5_3_0, c5_3_1⟩ := (bo4 K5).c2
  clear c5_0_0 c5_0_1 c5_1_0 c5_1_1 c5_2_0 c5_2_1 c5_3_0 c5_3_1
  have r5_1_0 : W5.cell? ⟨w.heap.size, 0, none⟩ = some (.int .i64 i0) := (K5.out.at (w.heap.size) [.int .i64 i0, .int .i64 a] (by simp)).c 0 rfl
  have sr5_1_0 : W5.frozen? ⟨w.heap.size, 0, none⟩ = false := (K5.out.at (w.heap.size) [.int .i64 i0, .int .i64 a] (by simp)).f 0 rfl
  have r5_1_1 : W5.cell? ⟨w.heap.size, 1, none⟩ = some (.int .i64 a) := (K5.out.at (w.heap.size) [.int .i64 i0, .int .i64 a] (by simp)).c 1 rfl
  have sr5_1_1 : W5.frozen? ⟨w.heap.size, 1, none⟩ = false := (K5.out.at (w.heap.size) [.int .i64 i0, .int .i64 a] (by simp)).f 1 rfl
  have r5_2_0 : W5.cell? ⟨w.heap.size + 1, 0, none⟩ = some (.int .i64 i1) := (K5.out.at (w.heap.size + 1) [.int .i64 i1, .int .i64 b] (by simp)).c 0 rfl
  have sr5_2_0 : W5.frozen? ⟨w.heap.size + 1, 0, none⟩ = false := (K5.out.at (w.heap.size + 1) [.int .i64 i1, .int .i64 b] (by simp)).f 0 rfl
  have r5_2_1 : W5.cell? ⟨w.heap.size + 1, 1, none⟩ = some (.int .i64 b) := (K5.out.at (w.heap.size + 1) [.int .i64 i1, .int .i64 b] (by simp)).c 1 rfl
  have sr5_2_1 : W5.frozen? ⟨w.heap.size + 1, 1, none⟩ = false := (K5.out.at (w.heap.size + 1) [.int .i64 i1, .int .i64 b] (by simp)).f 1 rfl
  have My5 := (K5.out.perm (l' := [(w.heap.size, [.int .i64 i0, .int .i64 a]), (w.heap.size + 1, [.int .i64 i1, .int .i64 b]), (w.heap.size + 3, [.int .i64 i3, .int .i64 d]), (w.heap.size + 2, [.int .i64 i2, .int .i64 c])]) (by intro x hx; simp only [List.mem_cons, List.not_mem_nil, or_false] at hx ⊢; rcases hx with h | h | h | h <;> simp [h])).set [.int .i64 p, .int .i64 x] rfl (by intro x hx; simp only [List.mem_cons, List.not_mem_nil, or_false] at hx; rcases hx with rfl | rfl | rfl <;> simp only [] <;> omega)
  have Mz5 : Hid (BS w [(w.heap.size + 1, [.int .i64 q, .int .i64 y]), (w.heap.size, [.int .i64 p, .int .i64 x]), (w.heap.size + 3, [.int .i64 i3, .int .i64 d]), (w.heap.size + 2, [.int .i64 i2, .int .i64 c])] ((W5.setCells (w.heap.size) 0 [.int .i64 p, .int .i64 x]).setCells (w.heap.size + 1) 0 [.int .i64 q, .int .i64 y])) := (My5.perm (l' := [(w.heap.size + 1, [.int .i64 i1, .int .i64 b]), (w.heap.size, [.int .i64 p, .int .i64 x]), (w.heap.size + 3, [.int .i64 i3, .int .i64 d]), (w.heap.size + 2, [.int .i64 i2, .int .i64 c])]) (by intro x hx; simp only [List.mem_cons, List.not_mem_nil, or_false] at hx ⊢; rcases hx with h | h | h | h <;> simp [h])).set [.int .i64 q, .int .i64 y] rfl (by intro x hx; simp only [List.mem_cons, List.not_mem_nil, or_false] at hx; rcases hx with rfl | rfl | rfl <;> simp only [] <;> omega)
  clear My5
  simp only [World.setCells, Nat.zero_add] at Mz5
  go_upto_region 4 with fail
  refine bs_to Mz5 ?_
  clear r5_1_0 sr5_1_0 r5_1_1 sr5_1_1 r5_2_0 sr5_2_0 r5_2_1 sr5_2_1
  intro W6 K6
  clear Mz5 K5
  obtain ⟨c6_0_0, c6_0_1⟩ := (bo1 K6).c2
  obtain ⟨c6_1_0, c6_1_1⟩ := (bo2 K6).c2
  obtain ⟨c6_2_0, c6_2_1⟩ := (bo3 K6).c2
  obtain ⟨c6_3_0, c6_3_1⟩ := (bo4 K6).c2
  go_wp2_with fail
  refine (IC.out _ (hL.out _ K6.out.1)).mono ?_
  rintro e W7 ⟨rfl, hb⟩
  have K7 := bsb K6 hb
  clear c6_0_0 c6_0_1 c6_1_0 c6_1_1 c6_2_0 c6_2_1 c6_3_0 c6_3_1
  clear hb K6
  obtain ⟨c7_0_0, c7_0_1⟩ := (bo1 K7).c2
  obtain ⟨c7_1_0, c7_1_1⟩ := (bo2 K7).c2
  obtain ⟨c7_2_0, c7_2_1⟩ := (bo3 K7).c2
  obtain ⟨c7_3_0, c7_3_1⟩ := (bo4 K7).c2
  clear c7_0_0 c7_0_1 c7_1_0 c7_1_1 c7_2_0 c7_2_1 c7_3_0 c7_3_1
  have r7_1_0 : W7.cell? ⟨w.heap.size + 2, 0, none⟩ = some (.int .i64 i2) := (K7.out.at (w.heap.size + 2) [.int .i64 i2, .int .i64 c] (by simp)).c 0 rfl
  have sr7_1_0 : W7.frozen? ⟨w.heap.size + 2, 0, none⟩ = false := (K7.out.at (w.heap.size + 2) [.int .i64 i2, .int .i64 c] (by simp)).f 0 rfl
  have r7_1_1 : W7.cell? ⟨w.heap.size + 2, 1, none⟩ = some (.int .i64 c) := (K7.out.at (w.heap.size + 2) [.int .i64 i2, .int .i64 c] (by simp)).c 1 rfl
  have sr7_1_1 : W7.frozen? ⟨w.heap.size + 2, 1, none⟩ = false := (K7.out.at (w.heap.size + 2) [.int .i64 i2, .int .i64 c] (by simp)).f 1 rfl
  have r7_2_0 : W7.cell? ⟨w.heap.size + 3, 0, none⟩ = some (.int .i64 i3) := (K7.out.at (w.heap.size + 3) [.int .i64 i3, .int .i64 d] (by simp)).c 0 rfl
  have sr7_2_0 : W7.frozen? ⟨w.heap.size + 3, 0, none⟩ = false := (K7.out.at (w.heap.size + 3) [.int .i64 i3, .int .i64 d] (by simp)).f 0 rfl
  have r7_2_1 : W7.cell? ⟨w.heap.size + 3, 1, none⟩ = some (.int .i64 d) := (K7.out.at (w.heap.size + 3) [.int .i64 i3, .int .i64 d] (by simp)).c 1 rfl
  have sr7_2_1 : W7.frozen? ⟨w.heap.size + 3, 1, none⟩ = false := (K7.out.at (w.heap.size + 3) [.int .i64 i3, .int .i64 d] (by simp)).f 1 rfl
  have My7 := (K7.out.perm (l' := [(w.heap.size + 2, [.int .i64 i2, .int .i64 c]), (w.heap.size + 3, [.int .i64 i3, .int .i64 d]), (w.heap.size + 1, [.int .i64 q, .int .i64 y]), (w.heap.size, [.int .i64 p, .int .i64 x])]) (by intro x hx; simp only [List.mem_cons, List.not_mem_nil, or_false] at hx ⊢; rcases hx with h | h | h | h <;> simp [h])).set [.int .i64 r, .int .i64 z] rfl (by intro x hx; simp only [List.mem_cons, List.not_mem_nil, or_false] at hx; rcases hx with rfl | rfl | rfl <;> simp only [] <;> omega)
  have Mz7 : Hid (BS w [(w.heap.size + 3, [.int .i64 s, .int .i64 t]), (w.heap.size + 2, [.int .i64 r, .int .i64 z]), (w.heap.size + 1, [.int .i64 q, .int .i64 y]), (w.heap.size, [.int .i64 p, .int .i64 x])] ((W7.setCells (w.heap.size + 2) 0 [.int .i64 r, .int .i64 z]).setCells (w.heap.size + 3) 0 [.int .i64 s, .int .i64 t])) := (My7.perm (l' := [(w.heap.size + 3, [.int .i64 i3, .int .i64 d]), (w.heap.size + 2, [.int .i64 r, .int .i64 z]), (w.heap.size + 1, [.int .i64 q, .int .i64 y]), (w.heap.size, [.int .i64 p, .int .i64 x])]) (by intro x hx; simp only [List.mem_cons, List.not_mem_nil, or_false] at hx ⊢; rcases hx with h | h | h | h <;> simp [h])).set [.int .i64 s, .int .i64 t] rfl (by intro x hx; simp only [List.mem_cons, List.not_mem_nil, or_false] at hx; rcases hx with rfl | rfl | rfl <;> simp only [] <;> omega)
  clear My7
  simp only [World.setCells, Nat.zero_add] at Mz7
  go_upto_region 5 with fail
  refine bs_to Mz7 ?_
  clear r7_1_0 sr7_1_0 r7_1_1 sr7_1_1 r7_2_0 sr7_2_0 r7_2_1 sr7_2_1
  intro W8 K8
  clear Mz7 K7
  obtain ⟨c8_0_0, c8_0_1⟩ := (bo1 K8).c2
  obtain ⟨c8_1_0, c8_1_1⟩ := (bo2 K8).c2
  obtain ⟨c8_2_0, c8_2_1⟩ := (bo3 K8).c2
  obtain ⟨c8_3_0, c8_3_1⟩ := (bo4 K8).c2
  go_wp2_with fail
  refine (C1.out _ (hL.out _ K8.out.1)).mono ?_
  rintro e W9 ⟨rfl, hb⟩
  have K9 := bsb K8 hb
  clear c8_0_0 c8_0_1 c8_1_0 c8_1_1 c8_2_0 c8_2_1 c8_3_0 c8_3_1
  clear hb K8
  obtain ⟨c9_0_0, c9_0_1⟩ := (bo1 K9).c2
  obtain ⟨c9_1_0, c9_1_1⟩ := (bo2 K9).c2
  obtain ⟨c9_2_0, c9_2_1⟩ := (bo3 K9).c2
  obtain ⟨c9_3_0, c9_3_1⟩ := (bo4 K9).c2
  go_wp2
  go_ret2
  exact ⟨rfl, K9.out.1⟩

set_option maxRecDepth 100000 in
set_option maxHeartbeats 4000000 in
theorem rov_no0 (i0 a i1 b i2 c i3 d : Int)
    (R0 : Hid (∀ w : World, Calls Tryz.prog 13 #[.agg #[.int .i64 i0, .int .i64 a]] w fun r' w' => r' = .returned (.bool false) ∧ Below w.heap.size w w'))
    (w : World) :
    Calls Tryz.prog 8 #[.agg #[.int .i64 i0, .int .i64 a], .agg #[.int .i64 i1, .int .i64 b], .agg #[.int .i64 i2, .int .i64 c], .agg #[.int .i64 i3, .int .i64 d]] w fun r' w' => r' = .returned (.tuple #[.bool false, .int .i64 1]) ∧ Below w.heap.size w w' := by
  have K0 : Hid (BS w [(w.heap.size + 3, [.int .i64 i3, .int .i64 d]), (w.heap.size + 2, [.int .i64 i2, .int .i64 c]), (w.heap.size + 1, [.int .i64 i1, .int .i64 b]), (w.heap.size, [.int .i64 i0, .int .i64 a])] ((((w.alloc (.cells #[.int .i64 i0, .int .i64 a] 23)).alloc (.cells #[.int .i64 i1, .int .i64 b] 23)).alloc (.cells #[.int .i64 i2, .int .i64 c] 23)).alloc (.cells #[.int .i64 i3, .int .i64 d] 23))) := (((((BS.start w).new [.int .i64 i0, .int .i64 a] 23 rfl).new [.int .i64 i1, .int .i64 b] 23 (by simp)).new [.int .i64 i2, .int .i64 c] 23 (by simp)).new [.int .i64 i3, .int .i64 d] 23 (by simp))
  go_enter Tryz.func8, Tryz.ntmps8
  go_wp2_with fail
  refine (R0.out _).mono ?_
  rintro e W1 ⟨rfl, hb⟩
  have K1 := bsb K0 hb
  clear hb K0
  obtain ⟨c1_0_0, c1_0_1⟩ := (bo1 K1).c2
  obtain ⟨c1_1_0, c1_1_1⟩ := (bo2 K1).c2
  obtain ⟨c1_2_0, c1_2_1⟩ := (bo3 K1).c2
  obtain ⟨c1_3_0, c1_3_1⟩ := (bo4 K1).c2
  go_wp2
  go_ret2
  exact ⟨rfl, K1.out.1⟩

set_option maxRecDepth 100000 in
set_option maxHeartbeats 4000000 in
theorem rov_no1 (i0 a i1 b i2 c i3 d : Int)
    (R0 : Hid (∀ w : World, Calls Tryz.prog 13 #[.agg #[.int .i64 i0, .int .i64 a]] w fun r' w' => r' = .returned (.bool true) ∧ Below w.heap.size w w'))
    (R1 : Hid (∀ w : World, Calls Tryz.prog 13 #[.agg #[.int .i64 i1, .int .i64 b]] w fun r' w' => r' = .returned (.bool false) ∧ Below w.heap.size w w'))
    (w : World) :
    Calls Tryz.prog 8 #[.agg #[.int .i64 i0, .int .i64 a], .agg #[.int .i64 i1, .int .i64 b], .agg #[.int .i64 i2, .int .i64 c], .agg #[.int .i64 i3, .int .i64 d]] w fun r' w' => r' = .returned (.tuple #[.bool false, .int .i64 1]) ∧ Below w.heap.size w w' := by
  have K0 : Hid (BS w [(w.heap.size + 3, [.int .i64 i3, .int .i64 d]), (w.heap.size + 2, [.int .i64 i2, .int .i64 c]), (w.heap.size + 1, [.int .i64 i1, .int .i64 b]), (w.heap.size, [.int .i64 i0, .int .i64 a])] ((((w.alloc (.cells #[.int .i64 i0, .int .i64 a] 23)).alloc (.cells #[.int .i64 i1, .int .i64 b] 23)).alloc (.cells #[.int .i64 i2, .int .i64 c] 23)).alloc (.cells #[.int .i64 i3, .int .i64 d] 23))) := (((((BS.start w).new [.int .i64 i0, .int .i64 a] 23 rfl).new [.int .i64 i1, .int .i64 b] 23 (by simp)).new [.int .i64 i2, .int .i64 c] 23 (by simp)).new [.int .i64 i3, .int .i64 d] 23 (by simp))
  go_enter Tryz.func8, Tryz.ntmps8
  go_wp2_with fail
  refine (R0.out _).mono ?_
  rintro e W1 ⟨rfl, hb⟩
  have K1 := bsb K0 hb
  clear hb K0
  obtain ⟨c1_0_0, c1_0_1⟩ := (bo1 K1).c2
  obtain ⟨c1_1_0, c1_1_1⟩ := (bo2 K1).c2
  obtain ⟨c1_2_0, c1_2_1⟩ := (bo3 K1).c2
  obtain ⟨c1_3_0, c1_3_1⟩ := (bo4 K1).c2
  go_wp2_with fail
  refine (R1.out _).mono ?_
  rintro e W2 ⟨rfl, hb⟩
  have K2 := bsb K1 hb
  clear c1_0_0 c1_0_1 c1_1_0 c1_1_1 c1_2_0 c1_2_1 c1_3_0 c1_3_1
  clear hb K1
  obtain ⟨c2_0_0, c2_0_1⟩ := (bo1 K2).c2
  obtain ⟨c2_1_0, c2_1_1⟩ := (bo2 K2).c2
  obtain ⟨c2_2_0, c2_2_1⟩ := (bo3 K2).c2
  obtain ⟨c2_3_0, c2_3_1⟩ := (bo4 K2).c2
  go_wp2
  go_ret2
  exact ⟨rfl, K2.out.1⟩

set_option maxRecDepth 100000 in
set_option maxHeartbeats 4000000 in
theorem rov_no2 (i0 a i1 b i2 c i3 d : Int)
    (R0 : Hid (∀ w : World, Calls Tryz.prog 13 #[.agg #[.int .i64 i0, .int .i64 a]] w fun r' w' => r' = .returned (.bool true) ∧ Below w.heap.size w w'))
    (R1 : Hid (∀ w : World, Calls Tryz.prog 13 #[.agg #[.int .i64 i1, .int .i64 b]] w fun r' w' => r' = .returned (.bool true) ∧ Below w.heap.size w w'))
    (R2 : Hid (∀ w : World, Calls Tryz.prog 13 #[.agg #[.int .i64 i2, .int .i64 c]] w fun r' w' => r' = .returned (.bool false) ∧ Below w.heap.size w w'))
    (w : World) :
    Calls Tryz.prog 8 #[.agg #[.int .i64 i0, .int .i64 a], .agg #[.int .i64 i1, .int .i64 b], .agg #[.int .i64 i2, .int .i64 c], .agg #[.int .i64 i3, .int .i64 d]] w fun r' w' => r' = .returned (.tuple #[.bool false, .int .i64 1]) ∧ Below w.heap.size w w' := by
  have K0 : Hid (BS w [(w.heap.size + 3, [.int .i64 i3, .int .i64 d]), (w.heap.size + 2, [.int .i64 i2, .int .i64 c]), (w.heap.size + 1, [.int .i64 i1, .int .i64 b]), (w.heap.size, [.int .i64 i0, .int .i64 a])] ((((w.alloc (.cells #[.int .i64 i0, .int .i64 a] 23)).alloc (.cells #[.int .i64 i1, .int .i64 b] 23)).alloc (.cells #[.int .i64 i2, .int .i64 c] 23)).alloc (.cells #[.int .i64 i3, .int .i64 d] 23))) := (((((BS.start w).new [.int .i64 i0, .int .i64 a] 23 rfl).new [.int .i64 i1, .int .i64 b] 23 (by simp)).new [.int .i64 i2, .int .i64 c] 23 (by simp)).new [.int .i64 i3, .int .i64 d] 23 (by simp))
  go_enter Tryz.func8, Tryz.ntmps8
  go_wp2_with fail
  refine (R0.out _).mono ?_
  rintro e W1 ⟨rfl, hb⟩
  have K1 := bsb K0 hb
  clear hb K0
  obtain ⟨c1_0_0, c1_0_1⟩ := (bo1 K1).c2
  obtain ⟨c1_1_0, c1_1_1⟩ := (bo2 K1).c2
  obtain ⟨c1_2_0, c1_2_1⟩ := (bo3 K1).c2
  obtain ⟨c1_3_0, c1_3_1⟩ := (bo4 K1).c2
  go_wp2_with fail
  refine (R1.out _).mono ?_
  rintro e W2 ⟨rfl, hb⟩
  have K2 := bsb K1 hb
  clear c1_0_0 c1_0_1 c1_1_0 c1_1_1 c1_2_0 c1_2_1 c1_3_0 c1_3_1
  clear hb K1
  obtain ⟨c2_0_0, c2_0_1⟩ := (bo1 K2).c2
  obtain ⟨c2_1_0, c2_1_1⟩ := (bo2 K2).c2
  obtain ⟨c2_2_0, c2_2_1⟩ := (bo3 K2).c2
  obtain ⟨c2_3_0, c2_3_1⟩ := (bo4 K2).c2
  go_wp2_with fail
  refine (R2.out _).mono ?_
  rintro e W3 ⟨rfl, hb⟩
  have K3 := bsb K2 hb
  clear c2_0_0 c2_0_1 c2_1_0 c2_1_1 c2_2_0 c2_2_1 c2_3_0 c2_3_1
  clear hb K2
  obtain ⟨c3_0_0, c3_0_1⟩ := (bo1 K3).c2
  obtain ⟨c3_1_0, c3_1_1⟩ := (bo2 K3).c2
  obtain ⟨c3_2_0, c3_2_1⟩ := (bo3 K3).c2
  obtain ⟨c3_3_0, c3_3_1⟩ := (bo4 K3).c2
  go_wp2
  go_ret2
  exact ⟨rfl, K3.out.1⟩

set_option maxRecDepth 100000 in
set_option maxHeartbeats 4000000 in
theorem rov_no3 (i0 a i1 b i2 c i3 d : Int)
    (R0 : Hid (∀ w : World, Calls Tryz.prog 13 #[.agg #[.int .i64 i0, .int .i64 a]] w fun r' w' => r' = .returned (.bool true) ∧ Below w.heap.size w w'))
    (R1 : Hid (∀ w : World, Calls Tryz.prog 13 #[.agg #[.int .i64 i1, .int .i64 b]] w fun r' w' => r' = .returned (.bool true) ∧ Below w.heap.size w w'))
    (R2 : Hid (∀ w : World, Calls Tryz.prog 13 #[.agg #[.int .i64 i2, .int .i64 c]] w fun r' w' => r' = .returned (.bool true) ∧ Below w.heap.size w w'))
    (R3 : Hid (∀ w : World, Calls Tryz.prog 13 #[.agg #[.int .i64 i3, .int .i64 d]] w fun r' w' => r' = .returned (.bool false) ∧ Below w.heap.size w w'))
    (w : World) :
    Calls Tryz.prog 8 #[.agg #[.int .i64 i0, .int .i64 a], .agg #[.int .i64 i1, .int .i64 b], .agg #[.int .i64 i2, .int .i64 c], .agg #[.int .i64 i3, .int .i64 d]] w fun r' w' => r' = .returned (.tuple #[.bool false, .int .i64 1]) ∧ Below w.heap.size w w' := by
  have K0 : Hid (BS w [(w.heap.size + 3, [.int .i64 i3, .int .i64 d]), (w.heap.size + 2, [.int .i64 i2, .int .i64 c]), (w.heap.size + 1, [.int .i64 i1, .int .i64 b]), (w.heap.size, [.int .i64 i0, .int .i64 a])] ((((w.alloc (.cells #[.int .i64 i0, .int .i64 a] 23)).alloc (.cells #[.int .i64 i1, .int .i64 b] 23)).alloc (.cells #[.int .i64 i2, .int .i64 c] 23)).alloc (.cells #[.int .i64 i3, .int .i64 d] 23))) := (((((BS.start w).new [.int .i64 i0, .int .i64 a] 23 rfl).new [.int .i64 i1, .int .i64 b] 23 (by simp)).new [.int .i64 i2, .int .i64 c] 23 (by simp)).new [.int .i64 i3, .int .i64 d] 23 (by simp))
  go_enter Tryz.func8, Tryz.ntmps8
  go_wp2_with fail
  refine (R0.out _).mono ?_
  rintro e W1 ⟨rfl, hb⟩
  have K1 := bsb K0 hb
  clear hb K0
  obtain ⟨c1_0_0, c1_0_1⟩ := (bo1 K1).c2
  obtain ⟨c1_1_0, c1_1_1⟩ := (bo2 K1).c2
  obtain ⟨c1_2_0, c1_2_1⟩ := (bo3 K1).c2
  obtain ⟨c1_3_0, c1_3_1⟩ := (bo4 K1).c2
  go_wp2_with fail
  refine (R1.out _).mono ?_
  rintro e W2 ⟨rfl, hb⟩
  have K2 := bsb K1 hb
  clear c1_0_0 c1_0_1 c1_1_0 c1_1_1 c1_2_0 c1_2_1 c1_3_0 c1_3_1
  clear hb K1
  obtain ⟨c2_0_0, c2_0_1⟩ := (bo1 K2).c2
  obtain ⟨c2_1_0, c2_1_1⟩ := (bo2 K2).c2
  obtain ⟨c2_2_0, c2_2_1⟩ := (bo3 K2).c2
  obtain ⟨c2_3_0, c2_3_1⟩ := (bo4 K2).c2
  go_wp2_with fail
  refine (R2.out _).mono ?_
  rintro e W3 ⟨rfl, hb⟩
  have K3 := bsb K2 hb
  clear c2_0_0 c2_0_1 c2_1_0 c2_1_1 c2_2_0 c2_2_1 c2_3_0 c2_3_1
  clear hb K2
  obtain ⟨c3_0_0, c3_0_1⟩ := (bo1 K3).c2
  obtain ⟨c3_1_0, c3_1_1⟩ := (bo2 K3).c2
  obtain ⟨c3_2_0, c3_2_1⟩ := (bo3 K3).c2
  obtain ⟨c3_3_0, c3_3_1⟩ := (bo4 K3).c2
  go_wp2_with fail
  refine (R3.out _).mono ?_
  rintro e W4 ⟨rfl, hb⟩
  have K4 := bsb K3 hb
  clear c3_0_0 c3_0_1 c3_1_0 c3_1_1 c3_2_0 c3_2_1 c3_3_0 c3_3_1
  clear hb K3
  obtain ⟨c4_0_0, c4_0_1⟩ := (bo1 K4).c2
  obtain ⟨c4_1_0, c4_1_1⟩ := (bo2 K4).c2
  obtain ⟨c4_2_0, c4_2_1⟩ := (bo3 K4).c2
  obtain ⟨c4_3_0, c4_3_1⟩ := (bo4 K4).c2
  go_wp2
  go_ret2
  exact ⟨rfl, K4.out.1⟩

set_option maxRecDepth 100000 in
set_option maxHeartbeats 4000000 in
theorem rov_00m (i0 a i1 b i2 c i3 d e f v u : Int) (h1 : ¬ 0 < e) (h2 : ¬ 0 < f) (ho : v < 0)
    (R0 : Hid (∀ w : World, Calls Tryz.prog 13 #[.agg #[.int .i64 i0, .int .i64 a]] w fun r' w' => r' = .returned (.bool true) ∧ Below w.heap.size w w'))
    (R1 : Hid (∀ w : World, Calls Tryz.prog 13 #[.agg #[.int .i64 i1, .int .i64 b]] w fun r' w' => r' = .returned (.bool true) ∧ Below w.heap.size w w'))
    (R2 : Hid (∀ w : World, Calls Tryz.prog 13 #[.agg #[.int .i64 i2, .int .i64 c]] w fun r' w' => r' = .returned (.bool true) ∧ Below w.heap.size w w'))
    (R3 : Hid (∀ w : World, Calls Tryz.prog 13 #[.agg #[.int .i64 i3, .int .i64 d]] w fun r' w' => r' = .returned (.bool true) ∧ Below w.heap.size w w'))
    (D1 : Hid (∀ w : World, Calls Tryz.prog 11 #[.agg #[.int .i64 i0, .int .i64 a], .agg #[.int .i64 i1, .int .i64 b]] w fun r' w' => r' = .returned (.int .i64 e) ∧ Below w.heap.size w w'))
    (D2 : Hid (∀ w : World, Calls Tryz.prog 11 #[.agg #[.int .i64 i2, .int .i64 c], .agg #[.int .i64 i3, .int .i64 d]] w fun r' w' => r' = .returned (.int .i64 f) ∧ Below w.heap.size w w'))
    (C1 : Hid (∀ w : World, Calls Tryz.prog 11 #[.agg #[.int .i64 i0, .int .i64 a], .agg #[.int .i64 i2, .int .i64 c]] w fun r' w' => r' = .returned (.int .i64 v) ∧ Below w.heap.size w w'))
    (C2 : Hid (∀ w : World, Calls Tryz.prog 11 #[.agg #[.int .i64 i2, .int .i64 c], .agg #[.int .i64 i1, .int .i64 b]] w fun r' w' => r' = .returned (.int .i64 u) ∧ Below w.heap.size w w'))
    (w : World) :
    Calls Tryz.prog 8 #[.agg #[.int .i64 i0, .int .i64 a], .agg #[.int .i64 i1, .int .i64 b], .agg #[.int .i64 i2, .int .i64 c], .agg #[.int .i64 i3, .int .i64 d]] w fun r' w' => r' = .returned (.tuple #[.bool (decide (u < 0)), .int .i64 0]) ∧ Below w.heap.size w w' := by
  have ho1 : (v == 0) = false := by simp; omega
  have K0 : Hid (BS w [(w.heap.size + 3, [.int .i64 i3, .int .i64 d]), (w.heap.size + 2, [.int .i64 i2, .int .i64 c]), (w.heap.size + 1, [.int .i64 i1, .int .i64 b]), (w.heap.size, [.int .i64 i0, .int .i64 a])] ((((w.alloc (.cells #[.int .i64 i0, .int .i64 a] 23)).alloc (.cells #[.int .i64 i1, .int .i64 b] 23)).alloc (.cells #[.int .i64 i2, .int .i64 c] 23)).alloc (.cells #[.int .i64 i3, .int .i64 d] 23))) := (((((BS.start w).new [.int .i64 i0, .int .i64 a] 23 rfl).new [.int .i64 i1, .int .i64 b] 23 (by simp)).new [.int .i64 i2, .int .i64 c] 23 (by simp)).new [.int .i64 i3, .int .i64 d] 23 (by simp))
  go_enter Tryz.func8, Tryz.ntmps8
  go_wp2_with fail
  refine (R0.out _).mono ?_
  rintro e W1 ⟨rfl, hb⟩
  have K1 := bsb K0 hb
  clear hb K0
  obtain ⟨c1_0_0, c1_0_1⟩ := (bo1 K1).c2
  obtain ⟨c1_1_0, c1_1_1⟩ := (bo2 K1).c2
  obtain ⟨c1_2_0, c1_2_1⟩ := (bo3 K1).c2
  obtain ⟨c1_3_0, c1_3_1⟩ := (bo4 K1).c2
  go_wp2_with fail
  refine (R1.out _).mono ?_
  rintro e W2 ⟨rfl, hb⟩
  have K2 := bsb K1 hb
  clear c1_0_0 c1_0_1 c1_1_0 c1_1_1 c1_2_0 c1_2_1 c1_3_0 c1_3_1
  clear hb K1
  obtain ⟨c2_0_0, c2_0_1⟩ := (bo1 K2).c2
  obtain ⟨c2_1_0, c2_1_1⟩ := (bo2 K2).c2
  obtain ⟨c2_2_0, c2_2_1⟩ := (bo3 K2).c2
  obtain ⟨c2_3_0, c2_3_1⟩ := (bo4 K2).c2
  go_wp2_with fail
  refine (R2.out _).mono ?_
  rintro e W3 ⟨rfl, hb⟩
  have K3 := bsb K2 hb
  clear c2_0_0 c2_0_1 c2_1_0 c2_1_1 c2_2_0 c2_2_1 c2_3_0 c2_3_1
  clear hb K2
  obtain ⟨c3_0_0, c3_0_1⟩ := (bo1 K3).c2
  obtain ⟨c3_1_0, c3_1_1⟩ := (bo2 K3).c2
  obtain ⟨c3_2_0, c3_2_1⟩ := (bo3 K3).c2
  obtain ⟨c3_3_0, c3_3_1⟩ := (bo4 K3).c2
  go_wp2_with fail
  refine (R3.out _).mono ?_
  rintro e W4 ⟨rfl, hb⟩
  have K4 := bsb K3 hb
  clear c3_0_0 c3_0_1 c3_1_0 c3_1_1 c3_2_0 c3_2_1 c3_3_0 c3_3_1
  clear hb K3
  obtain ⟨c4_0_0, c4_0_1⟩ := (bo1 K4).c2
  obtain ⟨c4_1_0, c4_1_1⟩ := (bo2 K4).c2
  obtain ⟨c4_2_0, c4_2_1⟩ := (bo3 K4).c2
  obtain ⟨c4_3_0, c4_3_1⟩ := (bo4 K4).c2
  go_wp2_with fail
  refine (D1.out _).mono ?_
  rintro e W5 ⟨rfl, hb⟩
  have K5 := bsb K4 hb
  clear c4_0_0 c4_0_1 c4_1_0 c4_1_1 c4_2_0 c4_2_1 c4_3_0 c4_3_1
  clear hb K4
  obtain ⟨c5_0_0, c5_0_1⟩ := (bo1 K5).c2
  obtain ⟨c5_1_0, c5_1_1⟩ := (bo2 K5).c2
  obtain ⟨c5_2_0, c5_2_1⟩ := (bo3 K5).c2
  obtain ⟨c5_3_0, c5_3_1⟩ := (bo4 K5).c2
  go_wp2_with fail
  refine (D2.out _).mono ?_
  rintro e W6 ⟨rfl, hb⟩
  have K6 := bsb K5 hb
  clear c5_0_0 c5_0_1 c5_1_0 c5_1_1 c5_2_0 c5_2_1 c5_3_0 c5_3_1
  clear hb K5
  obtain ⟨c6_0_0, c6_0_1⟩ := (bo1 K6).c2
  obtain ⟨c6_1_0, c6_1_1⟩ := (bo2 K6).c2
  obtain ⟨c6_2_0, c6_2_1⟩ := (bo3 K6).c2
  obtain ⟨c6_3_0, c6_3_1⟩ := (bo4 K6).c2
  go_wp2_with fail
  refine (C1.out _).mono ?_
  rintro e W7 ⟨rfl, hb⟩
  have K7 := bsb K6 hb
  clear c6_0_0 c6_0_1 c6_1_0 c6_1_1 c6_2_0 c6_2_1 c6_3_0 c6_3_1
  clear hb K6
  obtain ⟨c7_0_0, c7_0_1⟩ := (bo1 K7).c2
  obtain ⟨c7_1_0, c7_1_1⟩ := (bo2 K7).c2
  obtain ⟨c7_2_0, c7_2_1⟩ := (bo3 K7).c2
  obtain ⟨c7_3_0, c7_3_1⟩ := (bo4 K7).c2
  go_wp2_with fail
  refine (C2.out _).mono ?_
  rintro e W8 ⟨rfl, hb⟩
  have K8 := bsb K7 hb
  clear c7_0_0 c7_0_1 c7_1_0 c7_1_1 c7_2_0 c7_2_1 c7_3_0 c7_3_1
  clear hb K7
  obtain ⟨c8_0_0, c8_0_1⟩ := (bo1 K8).c2
  obtain ⟨c8_1_0, c8_1_1⟩ := (bo2 K8).c2
  obtain ⟨c8_2_0, c8_2_1⟩ := (bo3 K8).c2
  obtain ⟨c8_3_0, c8_3_1⟩ := (bo4 K8).c2
  go_wp2
  go_ret2
  exact ⟨rfl, K8.out.1⟩

set_option maxRecDepth 100000 in
set_option maxHeartbeats 4000000 in
theorem rov_00p (i0 a i1 b i2 c i3 d e f v u : Int) (h1 : ¬ 0 < e) (h2 : ¬ 0 < f) (ho : 0 < v)
    (R0 : Hid (∀ w : World, Calls Tryz.prog 13 #[.agg #[.int .i64 i0, .int .i64 a]] w fun r' w' => r' = .returned (.bool true) ∧ Below w.heap.size w w'))
    (R1 : Hid (∀ w : World, Calls Tryz.prog 13 #[.agg #[.int .i64 i1, .int .i64 b]] w fun r' w' => r' = .returned (.bool true) ∧ Below w.heap.size w w'))
    (R2 : Hid (∀ w : World, Calls Tryz.prog 13 #[.agg #[.int .i64 i2, .int .i64 c]] w fun r' w' => r' = .returned (.bool true) ∧ Below w.heap.size w w'))
    (R3 : Hid (∀ w : World, Calls Tryz.prog 13 #[.agg #[.int .i64 i3, .int .i64 d]] w fun r' w' => r' = .returned (.bool true) ∧ Below w.heap.size w w'))
    (D1 : Hid (∀ w : World, Calls Tryz.prog 11 #[.agg #[.int .i64 i0, .int .i64 a], .agg #[.int .i64 i1, .int .i64 b]] w fun r' w' => r' = .returned (.int .i64 e) ∧ Below w.heap.size w w'))
    (D2 : Hid (∀ w : World, Calls Tryz.prog 11 #[.agg #[.int .i64 i2, .int .i64 c], .agg #[.int .i64 i3, .int .i64 d]] w fun r' w' => r' = .returned (.int .i64 f) ∧ Below w.heap.size w w'))
    (C1 : Hid (∀ w : World, Calls Tryz.prog 11 #[.agg #[.int .i64 i0, .int .i64 a], .agg #[.int .i64 i2, .int .i64 c]] w fun r' w' => r' = .returned (.int .i64 v) ∧ Below w.heap.size w w'))
    (C2 : Hid (∀ w : World, Calls Tryz.prog 11 #[.agg #[.int .i64 i0, .int .i64 a], .agg #[.int .i64 i3, .int .i64 d]] w fun r' w' => r' = .returned (.int .i64 u) ∧ Below w.heap.size w w'))
    (w : World) :
    Calls Tryz.prog 8 #[.agg #[.int .i64 i0, .int .i64 a], .agg #[.int .i64 i1, .int .i64 b], .agg #[.int .i64 i2, .int .i64 c], .agg #[.int .i64 i3, .int .i64 d]] w fun r' w' => r' = .returned (.tuple #[.bool (decide (u < 0)), .int .i64 0]) ∧ Below w.heap.size w w' := by
  have ho1 : (v == 0) = false := by simp; omega
  have ho2 : ¬ v < 0 := by omega
  have K0 : Hid (BS w [(w.heap.size + 3, [.int .i64 i3, .int .i64 d]), (w.heap.size + 2, [.int .i64 i2, .int .i64 c]), (w.heap.size + 1, [.int .i64 i1, .int .i64 b]), (w.heap.size, [.int .i64 i0, .int .i64 a])] ((((w.alloc (.cells #[.int .i64 i0, .int .i64 a] 23)).alloc (.cells #[.int .i64 i1, .int .i64 b] 23)).alloc (.cells #[.int .i64 i2, .int .i64 c] 23)).alloc (.cells #[.int .i64 i3, .int .i64 d] 23))) := (((((BS.start w).new [.int .i64 i0, .int .i64 a] 23 rfl).new [.int .i64 i1, .int .i64 b] 23 (by simp)).new [.int .i64 i2, .int .i64 c] 23 (by simp)).new [.int .i64 i3, .int .i64 d] 23 (by simp))
  go_enter Tryz.func8, Tryz.ntmps8
  go_wp2_with fail
  refine (R0.out _).mono ?_
  rintro e W1 ⟨rfl, hb⟩
  have K1 := bsb K0 hb
  clear hb K0
  obtain ⟨c1_0_0, c1_0_1⟩ := (bo1 K1).c2
  obtain ⟨c1_1_0, c1_1_1⟩ := (bo2 K1).c2
  obtain ⟨c1_2_0, c1_2_1⟩ := (bo3 K1).c2
  obtain ⟨c1_3_0, c1_3_1⟩ := (bo4 K1).c2
  go_wp2_with fail
  refine (R1.out _).mono ?_
  rintro e W2 ⟨rfl, hb⟩
  have K2 := bsb K1 hb
  clear c1_0_0 c1_0_1 c1_1_0 c1_1_1 c1_2_0 c1_2_1 c1_3_0 c1_3_1
  clear hb K1
  obtain ⟨c2_0_0, c2_0_1⟩ := (bo1 K2).c2
  obtain ⟨c2_1_0, c2_1_1⟩ := (bo2 K2).c2
  obtain ⟨c2_2_0, c2_2_1⟩ := (bo3 K2).c2
  obtain ⟨c2_3_0, c2_3_1⟩ := (bo4 K2).c2
  go_wp2_with fail
  refine (R2.out _).mono ?_
  rintro e W3 ⟨rfl, hb⟩
  have K3 := bsb K2 hb
  clear c2_0_0 c2_0_1 c2_1_0 c2_1_1 c2_2_0 c2_2_1 c2_3_0 c2_3_1
  clear hb K2
  obtain ⟨c3_0_0, c3_0_1⟩ := (bo1 K3).c2
  obtain ⟨c3_1_0, c3_1_1⟩ := (bo2 K3).c2
  obtain ⟨c3_2_0, c3_2_1⟩ := (bo3 K3).c2
  obtain ⟨c3_3_0, c3_3_1⟩ := (bo4 K3).c2
  go_wp2_with fail
  refine (R3.out _).mono ?_
  rintro e W4 ⟨rfl, hb⟩
  have K4 := bsb K3 hb
  clear c3_0_0 c3_0_1 c3_1_0 c3_1_1 c3_2_0 c3_2_1 c3_3_0 c3_3_1
  clear hb K3
  obtain ⟨c4_0_0, c4_0_1⟩ := (bo1 K4).c2
  obtain ⟨c4_1_0, c4_1_1⟩ := (bo2 K4).c2
  obtain ⟨c4_2_0, c4_2_1⟩ := (bo3 K4).c2
  obtain ⟨c4_3_0, c4_3_1⟩ := (bo4 K4).c2
  go_wp2_with fail
  refine (D1.out _).mono ?_
  rintro e W5 ⟨rfl, hb⟩
  have K5 := bsb K4 hb
  clear c4_0_0 c4_0_1 c4_1_0 c4_1_1 c4_2_0 c4_2_1 c4_3_0 c4_3_1
  clear hb K4
  obtain ⟨c5_0_0, c5_0_1⟩ := (bo1 K5).c2
  obtain ⟨c5_1_0, c5_1_1⟩ := (bo2 K5).c2
  obtain ⟨c5_2_0, c5_2_1⟩ := (bo3 K5).c2
  obtain ⟨c5_3_0, c5_3_1⟩ := (bo4 K5).c2
  go_wp2_with fail
  refine (D2.out _).mono ?_
  rintro e W6 ⟨rfl, hb⟩
  have K6 := bsb K5 hb
  clear c5_0_0 c5_0_1 c5_1_0 c5_1_1 c5_2_0 c5_2_1 c5_3_0 c5_3_1
  clear hb K5
  obtain ⟨c6_0_0, c6_0_1⟩ := (bo1 K6).c2
  obtain ⟨c6_1_0, c6_1_1⟩ := (bo2 K6).c2
  obtain ⟨c6_2_0, c6_2_1⟩ := (bo3 K6).c2
  obtain ⟨c6_3_0, c6_3_1⟩ := (bo4 K6).c2
  go_wp2_with fail
  refine (C1.out _).mono ?_
  rintro e W7 ⟨rfl, hb⟩
  have K7 := bsb K6 hb
  clear c6_0_0 c6_0_1 c6_1_0 c6_1_1 c6_2_0 c6_2_1 c6_3_0 c6_3_1
  clear hb K6
  obtain ⟨c7_0_0, c7_0_1⟩ := (bo1 K7).c2
  obtain ⟨c7_1_0, c7_1_1⟩ := (bo2 K7).c2
  obtain ⟨c7_2_0, c7_2_1⟩ := (bo3 K7).c2
  obtain ⟨c7_3_0, c7_3_1⟩ := (bo4 K7).c2
  go_wp2_with fail
  refine (C2.out _).mono ?_
  rintro e W8 ⟨rfl, hb⟩
  have K8 := bsb K7 hb
  clear c7_0_0 c7_0_1 c7_1_0 c7_1_1 c7_2_0 c7_2_1 c7_3_0 c7_3_1
  clear hb K7
  obtain ⟨c8_0_0, c8_0_1⟩ := (bo1 K8).c2
  obtain ⟨c8_1_0, c8_1_1⟩ := (bo2 K8).c2
  obtain ⟨c8_2_0, c8_2_1⟩ := (bo3 K8).c2
  obtain ⟨c8_3_0, c8_3_1⟩ := (bo4 K8).c2
  go_wp2
  go_ret2
  exact ⟨rfl, K8.out.1⟩

set_option maxRecDepth 100000 in
set_option maxHeartbeats 4000000 in
theorem rov_00z (i0 a i1 b i2 c i3 d e f v u : Int) (h1 : ¬ 0 < e) (h2 : ¬ 0 < f) (ho : v = 0)
    (R0 : Hid (∀ w : World, Calls Tryz.prog 13 #[.agg #[.int .i64 i0, .int .i64 a]] w fun r' w' => r' = .returned (.bool true) ∧ Below w.heap.size w w'))
    (R1 : Hid (∀ w : World, Calls Tryz.prog 13 #[.agg #[.int .i64 i1, .int .i64 b]] w fun r' w' => r' = .returned (.bool true) ∧ Below w.heap.size w w'))
    (R2 : Hid (∀ w : World, Calls Tryz.prog 13 #[.agg #[.int .i64 i2, .int .i64 c]] w fun r' w' => r' = .returned (.bool true) ∧ Below w.heap.size w w'))
    (R3 : Hid (∀ w : World, Calls Tryz.prog 13 #[.agg #[.int .i64 i3, .int .i64 d]] w fun r' w' => r' = .returned (.bool true) ∧ Below w.heap.size w w'))
    (D1 : Hid (∀ w : World, Calls Tryz.prog 11 #[.agg #[.int .i64 i0, .int .i64 a], .agg #[.int .i64 i1, .int .i64 b]] w fun r' w' => r' = .returned (.int .i64 e) ∧ Below w.heap.size w w'))
    (D2 : Hid (∀ w : World, Calls Tryz.prog 11 #[.agg #[.int .i64 i2, .int .i64 c], .agg #[.int .i64 i3, .int .i64 d]] w fun r' w' => r' = .returned (.int .i64 f) ∧ Below w.heap.size w w'))
    (C1 : Hid (∀ w : World, Calls Tryz.prog 11 #[.agg #[.int .i64 i0, .int .i64 a], .agg #[.int .i64 i2, .int .i64 c]] w fun r' w' => r' = .returned (.int .i64 v) ∧ Below w.heap.size w w'))
    (w : World) :
    Calls Tryz.prog 8 #[.agg #[.int .i64 i0, .int .i64 a], .agg #[.int .i64 i1, .int .i64 b], .agg #[.int .i64 i2, .int .i64 c], .agg #[.int .i64 i3, .int .i64 d]] w fun r' w' => r' = .returned (.tuple #[.bool true, .int .i64 0]) ∧ Below w.heap.size w w' := by
  subst ho
  have K0 : Hid (BS w [(w.heap.size + 3, [.int .i64 i3, .int .i64 d]), (w.heap.size + 2, [.int .i64 i2, .int .i64 c]), (w.heap.size + 1, [.int .i64 i1, .int .i64 b]), (w.heap.size, [.int .i64 i0, .int .i64 a])] ((((w.alloc (.cells #[.int .i64 i0, .int .i64 a] 23)).alloc (.cells #[.int .i64 i1, .int .i64 b] 23)).alloc (.cells #[.int .i64 i2, .int .i64 c] 23)).alloc (.cells #[.int .i64 i3, .int .i64 d] 23))) := (((((BS.start w).new [.int .i64 i0, .int .i64 a] 23 rfl).new [.int .i64 i1, .int .i64 b] 23 (by simp)).new [.int .i64 i2, .int .i64 c] 23 (by simp)).new [.int .i64 i3, .int .i64 d] 23 (by simp))
  go_enter Tryz.func8, Tryz.ntmps8
  go_wp2_with fail
  refine (R0.out _).mono ?_
  rintro e W1 ⟨rfl, hb⟩
  have K1 := bsb K0 hb
  clear hb K0
  obtain ⟨c1_0_0, c1_0_1⟩ := (bo1 K1).c2
  obtain ⟨c1_1_0, c1_1_1⟩ := (bo2 K1).c2
  obtain ⟨c1_2_0, c1_2_1⟩ := (bo3 K1).c2
  obtain ⟨c1_3_0, c1_3_1⟩ := (bo4 K1).c2
  go_wp2_with fail
  refine (R1.out _).mono ?_
  rintro e W2 ⟨rfl, hb⟩
  have K2 := bsb K1 hb
  clear c1_0_0 c1_0_1 c1_1_0 c1_1_1 c1_2_0 c1_2_1 c1_3_0 c1_3_1
  clear hb K1
  obtain ⟨c2_0_0, c2_0_1⟩ := (bo1 K2).c2
  obtain ⟨c2_1_0, c2_1_1⟩ := (bo2 K2).c2
  obtain ⟨c2_2_0, c2_2_1⟩ := (bo3 K2).c2
  obtain ⟨c2_3_0, c2_3_1⟩ := (bo4 K2).c2
  go_wp2_with fail
  refine (R2.out _).mono ?_
  rintro e W3 ⟨rfl, hb⟩
  have K3 := bsb K2 hb
  clear c2_0_0 c2_0_1 c2_1_0 c2_1_1 c2_2_0 c2_2_1 c2_3_0 c2_3_1
  clear hb K2
  obtain ⟨c3_0_0, c3_0_1⟩ := (bo1 K3).c2
  obtain ⟨c3_1_0, c3_1_1⟩ := (bo2 K3).c2
  obtain ⟨c3_2_0, c3_2_1⟩ := (bo3 K3).c2
  obtain ⟨c3_3_0, c3_3_1⟩ := (bo4 K3).c2
  go_wp2_with fail
  refine (R3.out _).mono ?_
  rintro e W4 ⟨rfl, hb⟩
  have K4 := bsb K3 hb
  clear c3_0_0 c3_0_1 c3_1_0 c3_1_1 c3_2_0 c3_2_1 c3_3_0 c3_3_1
  clear hb K3
  obtain ⟨c4_0_0, c4_0_1⟩ := (bo1 K4).c2
  obtain ⟨c4_1_0, c4_1_1⟩ := (bo2 K4).c2
  obtain ⟨c4_2_0, c4_2_1⟩ := (bo3 K4).c2
  obtain ⟨c4_3_0, c4_3_1⟩ := (bo4 K4).c2
  go_wp2_with fail
  refine (D1.out _).mono ?_
  rintro e W5 ⟨rfl, hb⟩
  have K5 := bsb K4 hb
  clear c4_0_0 c4_0_1 c4_1_0 c4_1_1 c4_2_0 c4_2_1 c4_3_0 c4_3_1
  clear hb K4
  obtain ⟨c5_0_0, c5_0_1⟩ := (bo1 K5).c2
  obtain ⟨c5_1_0, c5_1_1⟩ := (bo2 K5).c2
  obtain ⟨c5_2_0, c5_2_1⟩ := (bo3 K5).c2
  obtain ⟨c5_3_0, c5_3_1⟩ := (bo4 K5).c2
  go_wp2_with fail
  refine (D2.out _).mono ?_
  rintro e W6 ⟨rfl, hb⟩
  have K6 := bsb K5 hb
  clear c5_0_0 c5_0_1 c5_1_0 c5_1_1 c5_2_0 c5_2_1 c5_3_0 c5_3_1
  clear hb K5
  obtain ⟨c6_0_0, c6_0_1⟩ := (bo1 K6).c2
  obtain ⟨c6_1_0, c6_1_1⟩ := (bo2 K6).c2
  obtain ⟨c6_2_0, c6_2_1⟩ := (bo3 K6).c2
  obtain ⟨c6_3_0, c6_3_1⟩ := (bo4 K6).c2
  go_wp2_with fail
  refine (C1.out _).mono ?_
  rintro e W7 ⟨rfl, hb⟩
  have K7 := bsb K6 hb
  clear c6_0_0 c6_0_1 c6_1_0 c6_1_1 c6_2_0 c6_2_1 c6_3_0 c6_3_1
  clear hb K6
  obtain ⟨c7_0_0, c7_0_1⟩ := (bo1 K7).c2
  obtain ⟨c7_1_0, c7_1_1⟩ := (bo2 K7).c2
  obtain ⟨c7_2_0, c7_2_1⟩ := (bo3 K7).c2
  obtain ⟨c7_3_0, c7_3_1⟩ := (bo4 K7).c2
  go_wp2
  go_ret2
  exact ⟨rfl, K7.out.1⟩

set_option maxRecDepth 100000 in
set_option maxHeartbeats 4000000 in
theorem rov_01m (i0 a i1 b i2 c i3 d e f v u : Int) (h1 : ¬ 0 < e) (h2 : 0 < f) (ho : v < 0)
    (R0 : Hid (∀ w : World, Calls Tryz.prog 13 #[.agg #[.int .i64 i0, .int .i64 a]] w fun r' w' => r' = .returned (.bool true) ∧ Below w.heap.size w w'))
    (R1 : Hid (∀ w : World, Calls Tryz.prog 13 #[.agg #[.int .i64 i1, .int .i64 b]] w fun r' w' => r' = .returned (.bool true) ∧ Below w.heap.size w w'))
    (R2 : Hid (∀ w : World, Calls Tryz.prog 13 #[.agg #[.int .i64 i2, .int .i64 c]] w fun r' w' => r' = .returned (.bool true) ∧ Below w.heap.size w w'))
    (R3 : Hid (∀ w : World, Calls Tryz.prog 13 #[.agg #[.int .i64 i3, .int .i64 d]] w fun r' w' => r' = .returned (.bool true) ∧ Below w.heap.size w w'))
    (D1 : Hid (∀ w : World, Calls Tryz.prog 11 #[.agg #[.int .i64 i0, .int .i64 a], .agg #[.int .i64 i1, .int .i64 b]] w fun r' w' => r' = .returned (.int .i64 e) ∧ Below w.heap.size w w'))
    (D2 : Hid (∀ w : World, Calls Tryz.prog 11 #[.agg #[.int .i64 i2, .int .i64 c], .agg #[.int .i64 i3, .int .i64 d]] w fun r' w' => r' = .returned (.int .i64 f) ∧ Below w.heap.size w w'))
    (C1 : Hid (∀ w : World, Calls Tryz.prog 11 #[.agg #[.int .i64 i0, .int .i64 a], .agg #[.int .i64 i3, .int .i64 d]] w fun r' w' => r' = .returned (.int .i64 v) ∧ Below w.heap.size w w'))
    (C2 : Hid (∀ w : World, Calls Tryz.prog 11 #[.agg #[.int .i64 i3, .int .i64 d], .agg #[.int .i64 i1, .int .i64 b]] w fun r' w' => r' = .returned (.int .i64 u) ∧ Below w.heap.size w w'))
    (w : World) :
    Calls Tryz.prog 8 #[.agg #[.int .i64 i0, .int .i64 a], .agg #[.int .i64 i1, .int .i64 b], .agg #[.int .i64 i2, .int .i64 c], .agg #[.int .i64 i3, .int .i64 d]] w fun r' w' => r' = .returned (.tuple #[.bool (decide (u < 0)), .int .i64 0]) ∧ Below w.heap.size w w' := by
  have ho1 : (v == 0) = false := by simp; omega
  have K0 : Hid (BS w [(w.heap.size + 3, [.int .i64 i3, .int .i64 d]), (w.heap.size + 2, [.int .i64 i2, .int .i64 c]), (w.heap.size + 1, [.int .i64 i1, .int .i64 b]), (w.heap.size, [.int .i64 i0, .int .i64 a])] ((((w.alloc (.cells #[.int .i64 i0, .int .i64 a] 23)).alloc (.cells #[.int .i64 i1, .int .i64 b] 23)).alloc (.cells #[.int .i64 i2, .int .i64 c] 23)).alloc (.cells #[.int .i64 i3, .int .i64 d] 23))) := (((((BS.start w).new [.int .i64 i0, .int .i64 a] 23 rfl).new [.int .i64 i1, .int .i64 b] 23 (by simp)).new [.int .i64 i2, .int .i64 c] 23 (by simp)).new [.int .i64 i3, .int .i64 d] 23 (by simp))
  go_enter Tryz.func8, Tryz.ntmps8
  go_wp2_with fail
  refine (R0.out _).mono ?_
  rintro e W1 ⟨rfl, hb⟩
  have K1 := bsb K0 hb
  clear hb K0
  obtain ⟨c1_0_0, c1_0_1⟩ := (bo1 K1).c2
  obtain ⟨c1_1_0, c1_1_1⟩ := (bo2 K1).c2
  obtain ⟨c1_2_0, c1_2_1⟩ := (bo3 K1).c2
  obtain ⟨c1_3_0, c1_3_1⟩ := (bo4 K1).c2
  go_wp2_with fail
  refine (R1.out _).mono ?_
  rintro e W2 ⟨rfl, hb⟩
  have K2 := bsb K1 hb
  clear c1_0_0 c1_0_1 c1_1_0 c1_1_1 c1_2_0 c1_2_1 c1_3_0 c1_3_1
  clear hb K1
  obtain ⟨c2_0_0, c2_0_1⟩ := (bo1 K2).c2
  obtain ⟨c2_1_0, c2_1_1⟩ := (bo2 K2).c2
  obtain ⟨c2_2_0, c2_2_1⟩ := (bo3 K2).c2
  obtain ⟨c2_3_0, c2_3_1⟩ := (bo4 K2).c2
  go_wp2_with fail
  refine (R2.out _).mono ?_
  rintro e W3 ⟨rfl, hb⟩
  have K3 := bsb K2 hb
  clear c2_0_0 c2_0_1 c2_1_0 c2_1_1 c2_2_0 c2_2_1 c2_3_0 c2_3_1
  clear hb K2
  obtain ⟨c3_0_0, c3_0_1⟩ := (bo1 K3).c2
  obtain ⟨c3_1_0, c3_1_1⟩ := (bo2 K3).c2
  obtain ⟨c3_2_0, c3_2_1⟩ := (bo3 K3).c2
  obtain ⟨c3_3_0, c3_3_1⟩ := (bo4 K3).c2
  go_wp2_with fail
  refine (R3.out _).mono ?_
  rintro e W4 ⟨rfl, hb⟩
  have K4 := bsb K3 hb
  clear c3_0_0 c3_0_1 c3_1_0 c3_1_1 c3_2_0 c3_2_1 c3_3_0 c3_3_1
  clear hb K3
  obtain ⟨c4_0_0, c4_0_1⟩ := (bo1 K4).c2
  obtain ⟨c4_1_0, c4_1_1⟩ := (bo2 K4).c2
  obtain ⟨c4_2_0, c4_2_1⟩ := (bo3 K4).c2
  obtain ⟨c4_3_0, c4_3_1⟩ := (bo4 K4).c2
  go_wp2_with fail
  refine (D1.out _).mono ?_
  rintro e W5 ⟨rfl, hb⟩
  have K5 := bsb K4 hb
  clear c4_0_0 c4_0_1 c4_1_0 c4_1_1 c4_2_0 c4_2_1 c4_3_0 c4_3_1
  clear hb K4
  obtain ⟨c5_0_0, c5_0_1⟩ := (bo1 K5).c2
  obtain ⟨c5_1_0, c5_1_1⟩ := (bo2 K5).c2
  obtain ⟨c5_2_0, c5_2_1⟩ := (bo3 K5).c2
  obtain ⟨c5_3_0, c5_3_1⟩ := (bo4 K5).c2
  go_wp2_with fail
  refine (D2.out _).mono ?_
  rintro e W6 ⟨rfl, hb⟩
  have K6 := bsb K5 hb
  clear c5_0_0 c5_0_1 c5_1_0 c5_1_1 c5_2_0 c5_2_1 c5_3_0 c5_3_1
  clear hb K5
  obtain ⟨c6_0_0, c6_0_1⟩ := (bo1 K6).c2
  obtain ⟨c6_1_0, c6_1_1⟩ := (bo2 K6).c2
  obtain ⟨c6_2_0, c6_2_1⟩ := (bo3 K6).c2
  obtain ⟨c6_3_0, c6_3_1⟩ := (bo4 K6).c2
  clear c6_0_0 c6_0_1 c6_1_0 c6_1_1 c6_2_0 c6_2_1 c6_3_0 c6_3_1
  have r6_1_0 : W6.cell? ⟨w.heap.size + 2, 0, none⟩ = some (.int .i64 i2) := (K6.out.at (w.heap.size + 2) [.int .i64 i2, .int .i64 c] (by simp)).c 0 rfl
  have sr6_1_0 : W6.frozen? ⟨w.heap.size + 2, 0, none⟩ = false := (K6.out.at (w.heap.size + 2) [.int .i64 i2, .int .i64 c] (by simp)).f 0 rfl
  have r6_1_1 : W6.cell? ⟨w.heap.size + 2, 1, none⟩ = some (.int .i64 c) := (K6.out.at (w.heap.size + 2) [.int .i64 i2, .int .i64 c] (by simp)).c 1 rfl
  have sr6_1_1 : W6.frozen? ⟨w.heap.size + 2, 1, none⟩ = false := (K6.out.at (w.heap.size + 2) [.int .i64 i2, .int .i64 c] (by simp)).f 1 rfl
  have r6_2_0 : W6.cell? ⟨w.heap.size + 3, 0, none⟩ = some (.int .i64 i3) := (K6.out.at (w.heap.size + 3) [.int .i64 i3, .int .i64 d] (by simp)).c 0 rfl
  have sr6_2_0 : W6.frozen? ⟨w.heap.size + 3, 0, none⟩ = false := (K6.out.at (w.heap.size + 3) [.int .i64 i3, .int .i64 d] (by simp)).f 0 rfl
  have r6_2_1 : W6.cell? ⟨w.heap.size + 3, 1, none⟩ = some (.int .i64 d) := (K6.out.at (w.heap.size + 3) [.int .i64 i3, .int .i64 d] (by simp)).c 1 rfl
  have sr6_2_1 : W6.frozen? ⟨w.heap.size + 3, 1, none⟩ = false := (K6.out.at (w.heap.size + 3) [.int .i64 i3, .int .i64 d] (by simp)).f 1 rfl
  have My6 := (K6.out.perm (l' := [(w.heap.size + 2, [.int .i64 i2, .int .i64 c]), (w.heap.size + 3, [.int .i64 i3, .int .i64 d]), (w.heap.size + 1, [.int .i64 i1, .int .i64 b]), (w.heap.size, [.int .i64 i0, .int .i64 a])]) (by intro x hx; simp only [List.mem_cons, List.not_mem_nil, or_false] at hx ⊢; rcases hx with h | h | h | h <;> simp [h])).set [.int .i64 i3, .int .i64 d] rfl (by intro x hx; simp only [List.mem_cons, List.not_mem_nil, or_false] at hx; rcases hx with rfl | rfl | rfl <;> simp only [] <;> omega)
  have Mz6 : Hid (BS w [(w.heap.size + 3, [.int .i64 i2, .int .i64 c]), (w.heap.size + 2, [.int .i64 i3, .int .i64 d]), (w.heap.size + 1, [.int .i64 i1, .int .i64 b]), (w.heap.size, [.int .i64 i0, .int .i64 a])] ((W6.setCells (w.heap.size + 2) 0 [.int .i64 i3, .int .i64 d]).setCells (w.heap.size + 3) 0 [.int .i64 i2, .int .i64 c])) := (My6.perm (l' := [(w.heap.size + 3, [.int .i64 i3, .int .i64 d]), (w.heap.size + 2, [.int .i64 i3, .int .i64 d]), (w.heap.size + 1, [.int .i64 i1, .int .i64 b]), (w.heap.size, [.int .i64 i0, .int .i64 a])]) (by intro x hx; simp only [List.mem_cons, List.not_mem_nil, or_false] at hx ⊢; rcases hx with h | h | h | h <;> simp [h])).set [.int .i64 i2, .int .i64 c] rfl (by intro x hx; simp only [List.mem_cons, List.not_mem_nil, or_false] at hx; rcases hx with rfl | rfl | rfl <;> simp only [] <;> omega)
  clear My6
  simp only [World.setCells, Nat.zero_add] at Mz6
  go_upto_region 7 with fail
  refine bs_to Mz6 ?_
  clear r6_1_0 sr6_1_0 r6_1_1 sr6_1_1 r6_2_0 sr6_2_0 r6_2_1 sr6_2_1
  intro W7 K7
  clear Mz6 K6
  obtain ⟨c7_0_0, c7_0_1⟩ := (bo1 K7).c2
  obtain ⟨c7_1_0, c7_1_1⟩ := (bo2 K7).c2
  obtain ⟨c7_2_0, c7_2_1⟩ := (bo3 K7).c2
  obtain ⟨c7_3_0, c7_3_1⟩ := (bo4 K7).c2
  go_wp2_with fail
  refine (C1.out _).mono ?_
  rintro e W8 ⟨rfl, hb⟩
  have K8 := bsb K7 hb
  clear c7_0_0 c7_0_1 c7_1_0 c7_1_1 c7_2_0 c7_2_1 c7_3_0 c7_3_1
  clear hb K7
  obtain ⟨c8_0_0, c8_0_1⟩ := (bo1 K8).c2
  obtain ⟨c8_1_0, c8_1_1⟩ := (bo2 K8).c2
  obtain ⟨c8_2_0, c8_2_1⟩ := (bo3 K8).c2
  obtain ⟨c8_3_0, c8_3_1⟩ := (bo4 K8).c2
  go_wp2_with fail
  refine (C2.out _).mono ?_
  rintro e W9 ⟨rfl, hb⟩
  have K9 := bsb K8 hb
  clear c8_0_0 c8_0_1 c8_1_0 c8_1_1 c8_2_0 c8_2_1 c8_3_0 c8_3_1
  clear hb K8
  obtain ⟨c9_0_0, c9_0_1⟩ := (bo1 K9).c2
  obtain ⟨c9_1_0, c9_1_1⟩ := (bo2 K9).c2
  obtain ⟨c9_2_0, c9_2_1⟩ := (bo3 K9).c2
  obtain ⟨c9_3_0, c9_3_1⟩ := (bo4 K9).c2
  go_wp2
  go_ret2
  exact ⟨rfl, K9.out.1⟩

set_option maxRecDepth 100000 in
set_option maxHeartbeats 4000000 in
theorem rov_01p (i0 a i1 b i2 c i3 d e f v u : Int) (h1 : ¬ 0 < e) (h2 : 0 < f) (ho : 0 < v)
    (R0 : Hid (∀ w : World, Calls Tryz.prog 13 #[.agg #[.int .i64 i0, .int .i64 a]] w fun r' w' => r' = .returned (.bool true) ∧ Below w.heap.size w w'))
    (R1 : Hid (∀ w : World, Calls Tryz.prog 13 #[.agg #[.int .i64 i1, .int .i64 b]] w fun r' w' => r' = .returned (.bool true) ∧ Below w.heap.size w w'))
    (R2 : Hid (∀ w : World, Calls Tryz.prog 13 #[.agg #[.int .i64 i2, .int .i64 c]] w fun r' w' => r' = .returned (.bool true) ∧ Below w.heap.size w w'))
    (R3 : Hid (∀ w : World, Calls Tryz.prog 13 #[.agg #[.int .i64 i3, .int .i64 d]] w fun r' w' => r' = .returned (.bool true) ∧ Below w.heap.size w w'))
    (D1 : Hid (∀ w : World, Calls Tryz.prog 11 #[.agg #[.int .i64 i0, .int .i64 a], .agg #[.int .i64 i1, .int .i64 b]] w fun r' w' => r' = .returned (.int .i64 e) ∧ Below w.heap.size w w'))
    (D2 : Hid (∀ w : World, Calls Tryz.prog 11 #[.agg #[.int .i64 i2, .int .i64 c], .agg #[.int .i64 i3, .int .i64 d]] w fun r' w' => r' = .returned (.int .i64 f) ∧ Below w.heap.size w w'))
    (C1 : Hid (∀ w : World, Calls Tryz.prog 11 #[.agg #[.int .i64 i0, .int .i64 a], .agg #[.int .i64 i3, .int .i64 d]] w fun r' w' => r' = .returned (.int .i64 v) ∧ Below w.heap.size w w'))
    (C2 : Hid (∀ w : World, Calls Tryz.prog 11 #[.agg #[.int .i64 i0, .int .i64 a], .agg #[.int .i64 i2, .int .i64 c]] w fun r' w' => r' = .returned (.int .i64 u) ∧ Below w.heap.size w w'))
    (w : World) :
    Calls Tryz.prog 8 #[.agg #[.int .i64 i0, .int .i64 a], .agg #[.int .i64 i1, .int .i64 b], .agg #[.int .i64 i2, .int .i64 c], .agg #[.int .i64 i3, .int .i64 d]] w fun r' w' => r' = .returned (.tuple #[.bool (decide (u < 0)), .int .i64 0]) ∧ Below w.heap.size w w' := by
  have ho1 : (v == 0) = false := by simp; omega
  have ho2 : ¬ v < 0 := by omega
  have K0 : Hid (BS w [(w.heap.size + 3, [.int .i64 i3, .int .i64 d]), (w.heap.size + 2, [.int .i64 i2, .int .i64 c]), (w.heap.size + 1, [.int .i64 i1, .int .i64 b]), (w.heap.size, [.int .i64 i0, .int .i64 a])] ((((w.alloc (.cells #[.int .i64 i0, .int .i64 a] 23)).alloc (.cells #[.int .i64 i1, .int .i64 b] 23)).alloc (.cells #[.int .i64 i2, .int .i64 c] 23)).alloc (.cells #[.int .i64 i3, .int .i64 d] 23))) := (((((BS.start w).new [.int .i64 i0, .int .i64 a] 23 rfl).new [.int .i64 i1, .int .i64 b] 23 (by simp)).new [.int .i64 i2, .int .i64 c] 23 (by simp)).new [.int .i64 i3, .int .i64 d] 23 (by simp))
  go_enter Tryz.func8, Tryz.ntmps8
  go_wp2_with fail
  refine (R0.out _).mono ?_
  rintro e W1 ⟨rfl, hb⟩
  have K1 := bsb K0 hb
  clear hb K0
  obtain ⟨c1_0_0, c1_0_1⟩ := (bo1 K1).c2
  obtain ⟨c1_1_0, c1_1_1⟩ := (bo2 K1).c2
  obtain ⟨c1_2_0, c1_2_1⟩ := (bo3 K1).c2
  obtain ⟨c1_3_0, c1_3_1⟩ := (bo4 K1).c2
  go_wp2_with fail
  refine (R1.out _).mono ?_
  rintro e W2 ⟨rfl, hb⟩
  have K2 := bsb K1 hb
  clear c1_0_0 c1_0_1 c1_1_0 c1_1_1 c1_2_0 c1_2_1 c1_3_0 c1_3_1
  clear hb K1
  obtain ⟨c2_0_0, c2_0_1⟩ := (bo1 K2).c2
  obtain ⟨c2_1_0, c2_1_1⟩ := (bo2 K2).c2
  obtain ⟨c2_2_0, c2_2_1⟩ := (bo3 K2).c2
  obtain ⟨c2_3_0, c2_3_1⟩ := (bo4 K2).c2
  go_wp2_with fail
  refine (R2.out _).mono ?_
  rintro e W3 ⟨rfl, hb⟩
  have K3 := bsb K2 hb
  clear c2_0_0 c2_0_1 c2_1_0 c2_1_1 c2_2_0 c2_2_1 c2_3_0 c2_3_1
  clear hb K2
  obtain ⟨c3_0_0, c3_0_1⟩ := (bo1 K3).c2
  obtain ⟨c3_1_0, c3_1_1⟩ := (bo2 K3).c2
  obtain ⟨c3_2_0, c3_2_1⟩ := (bo3 K3).c2
  obtain ⟨c3_3_0, c3_3_1⟩ := (bo4 K3).c2
  go_wp2_with fail
  refine (R3.out _).mono ?_
  rintro e W4 ⟨rfl, hb⟩
  have K4 := bsb K3 hb
  clear c3_0_0 c3_0_1 c3_1_0 c3_1_1 c3_2_0 c3_2_1 c3_3_0 c3_3_1
  clear hb K3
  obtain ⟨c4_0_0, c4_0_1⟩ := (bo1 K4).c2
  obtain ⟨c4_1_0, c4_1_1⟩ := (bo2 K4).c2
  obtain ⟨c4_2_0, c4_2_1⟩ := (bo3 K4).c2
  obtain ⟨c4_3_0, c4_3_1⟩ := (bo4 K4).c2
  go_wp2_with fail
  refine (D1.out _).mono ?_
  rintro e W5 ⟨rfl, hb⟩
  have K5 := bsb K4 hb
  clear c4_0_0 c4_0_1 c4_1_0 c4_1_1 c4_2_0 c4_2_1 c4_3_0 c4_3_1
  clear hb K4
  obtain ⟨c5_0_0, c5_0_1⟩ := (bo1 K5).c2
  obtain ⟨c5_1_0, c5_1_1⟩ := (bo2 K5).c2
  obtain ⟨c5_2_0, c5_2_1⟩ := (bo3 K5).c2
  obtain ⟨c5_3_0, c5_3_1⟩ := (bo4 K5).c2
  go_wp2_with fail
  refine (D2.out _).mono ?_
  rintro e W6 ⟨rfl, hb⟩
  have K6 := bsb K5 hb
  clear c5_0_0 c5_0_1 c5_1_0 c5_1_1 c5_2_0 c5_2_1 c5_3_0 c5_3_1
  clear hb K5
  obtain ⟨c6_0_0, c6_0_1⟩ := (bo1 K6).c2
  obtain ⟨c6_1_0, c6_1_1⟩ := (bo2 K6).c2
  obtain ⟨c6_2_0, c6_2_1⟩ := (bo3 K6).c2
  obtain ⟨c6_3_0, c6_3_1⟩ := (bo4 K6).c2
  clear c6_0_0 c6_0_1 c6_1_0 c6_1_1 c6_2_0 c6_2_1 c6_3_0 c6_3_1
  have r6_1_0 : W6.cell? ⟨w.heap.size + 2, 0, none⟩ = some (.int .i64 i2) := (K6.out.at (w.heap.size + 2) [.int .i64 i2, .int .i64 c] (by simp)).c 0 rfl
  have sr6_1_0 : W6.frozen? ⟨w.heap.size + 2, 0, none⟩ = false := (K6.out.at (w.heap.size + 2) [.int .i64 i2, .int .i64 c] (by simp)).f 0 rfl
  have r6_1_1 : W6.cell? ⟨w.heap.size + 2, 1, none⟩ = some (.int .i64 c) := (K6.out.at (w.heap.size + 2) [.int .i64 i2, .int .i64 c] (by simp)).c 1 rfl
  have sr6_1_1 : W6.frozen? ⟨w.heap.size + 2, 1, none⟩ = false := (K6.out.at (w.heap.size + 2) [.int .i64 i2, .int .i64 c] (by simp)).f 1 rfl
  have r6_2_0 : W6.cell? ⟨w.heap.size + 3, 0, none⟩ = some (.int .i64 i3) := (K6.out.at (w.heap.size + 3) [.int .i64 i3, .int .i64 d] (by simp)).c 0 rfl
  have sr6_2_0 : W6.frozen? ⟨w.heap.size + 3, 0, none⟩ = false := (K6.out.at (w.heap.size + 3) [.int .i64 i3, .int .i64 d] (by simp)).f 0 rfl
  have r6_2_1 : W6.cell? ⟨w.heap.size + 3, 1, none⟩ = some (.int .i64 d) := (K6.out.at (w.heap.size + 3) [.int .i64 i3, .int .i64 d] (by simp)).c 1 rfl
  have sr6_2_1 : W6.frozen? ⟨w.heap.size + 3, 1, none⟩ = false := (K6.out.at (w.heap.size + 3) [.int .i64 i3, .int .i64 d] (by simp)).f 1 rfl
  have My6 := (K6.out.perm (l' := [(w.heap.size + 2, [.int .i64 i2, .int .i64 c]), (w.heap.size + 3, [.int .i64 i3, .int .i64 d]), (w.heap.size + 1, [.int .i64 i1, .int .i64 b]), (w.heap.size, [.int .i64 i0, .int .i64 a])]) (by intro x hx; simp only [List.mem_cons, List.not_mem_nil, or_false] at hx ⊢; rcases hx with h | h | h | h <;> simp [h])).set [.int .i64 i3, .int .i64 d] rfl (by intro x hx; simp only [List.mem_cons, List.not_mem_nil, or_false] at hx; rcases hx with rfl | rfl | rfl <;> simp only [] <;> omega)
  have Mz6 : Hid (BS w [(w.heap.size + 3, [.int .i64 i2, .int .i64 c]), (w.heap.size + 2, [.int .i64 i3, .int .i64 d]), (w.heap.size + 1, [.int .i64 i1, .int .i64 b]), (w.heap.size, [.int .i64 i0, .int .i64 a])] ((W6.setCells (w.heap.size + 2) 0 [.int .i64 i3, .int .i64 d]).setCells (w.heap.size + 3) 0 [.int .i64 i2, .int .i64 c])) := (My6.perm (l' := [(w.heap.size + 3, [.int .i64 i3, .int .i64 d]), (w.heap.size + 2, [.int .i64 i3, .int .i64 d]), (w.heap.size + 1, [.int .i64 i1, .int .i64 b]), (w.heap.size, [.int .i64 i0, .int .i64 a])]) (by intro x hx; simp only [List.mem_cons, List.not_mem_nil, or_false] at hx ⊢; rcases hx with h | h | h | h <;> simp [h])).set [.int .i64 i2, .int .i64 c] rfl (by intro x hx; simp only [List.mem_cons, List.not_mem_nil, or_false] at hx; rcases hx with rfl | rfl | rfl <;> simp only [] <;> omega)
  clear My6
  simp only [World.setCells, Nat.zero_add] at Mz6
  go_upto_region 7 with fail
  refine bs_to Mz6 ?_
  clear r6_1_0 sr6_1_0 r6_1_1 sr6_1_1 r6_2_0 sr6_2_0 r6_2_1 sr6_2_1
  intro W7 K7
  clear Mz6 K6
  obtain ⟨c7_0_0, c7_0_1⟩ := (bo1 K7).c2
  obtain ⟨c7_1_0, c7_1_1⟩ := (bo2 K7).c2
  obtain ⟨c7_2_0, c7_2_1⟩ := (bo3 K7).c2
  obtain ⟨c7_3_0, c7_3_1⟩ := (bo4 K7).c2
  go_wp2_with fail
  refine (C1.out _).mono ?_
  rintro e W8 ⟨rfl, hb⟩
  have K8 := bsb K7 hb
  clear c7_0_0 c7_0_1 c7_1_0 c7_1_1 c7_2_0 c7_2_1 c7_3_0 c7_3_1
  clear hb K7
  obtain ⟨c8_0_0, c8_0_1⟩ := (bo1 K8).c2
  obtain ⟨c8_1_0, c8_1_1⟩ := (bo2 K8).c2
  obtain ⟨c8_2_0, c8_2_1⟩ := (bo3 K8).c2
  obtain ⟨c8_3_0, c8_3_1⟩ := (bo4 K8).c2
  go_wp2_with fail
  refine (C2.out _).mono ?_
  rintro e W9 ⟨rfl, hb⟩
  have K9 := bsb K8 hb
  clear c8_0_0 c8_0_1 c8_1_0 c8_1_1 c8_2_0 c8_2_1 c8_3_0 c8_3_1
  clear hb K8
  obtain ⟨c9_0_0, c9_0_1⟩ := (bo1 K9).c2
  obtain ⟨c9_1_0, c9_1_1⟩ := (bo2 K9).c2
  obtain ⟨c9_2_0, c9_2_1⟩ := (bo3 K9).c2
  obtain ⟨c9_3_0, c9_3_1⟩ := (bo4 K9).c2
  go_wp2
  go_ret2
  exact ⟨rfl, K9.out.1⟩

set_option maxRecDepth 100000 in
set_option maxHeartbeats 4000000 in
theorem rov_01z (i0 a i1 b i2 c i3 d e f v u : Int) (h1 : ¬ 0 < e) (h2 : 0 < f) (ho : v = 0)
    (R0 : Hid (∀ w : World, Calls Tryz.prog 13 #[.agg #[.int .i64 i0, .int .i64 a]] w fun r' w' => r' = .returned (.bool true) ∧ Below w.heap.size w w'))
    (R1 : Hid (∀ w : World, Calls Tryz.prog 13 #[.agg #[.int .i64 i1, .int .i64 b]] w fun r' w' => r' = .returned (.bool true) ∧ Below w.heap.size w w'))
    (R2 : Hid (∀ w : World, Calls Tryz.prog 13 #[.agg #[.int .i64 i2, .int .i64 c]] w fun r' w' => r' = .returned (.bool true) ∧ Below w.heap.size w w'))
    (R3 : Hid (∀ w : World, Calls Tryz.prog 13 #[.agg #[.int .i64 i3, .int .i64 d]] w fun r' w' => r' = .returned (.bool true) ∧ Below w.heap.size w w'))
    (D1 : Hid (∀ w : World, Calls Tryz.prog 11 #[.agg #[.int .i64 i0, .int .i64 a], .agg #[.int .i64 i1, .int .i64 b]] w fun r' w' => r' = .returned (.int .i64 e) ∧ Below w.heap.size w w'))
    (D2 : Hid (∀ w : World, Calls Tryz.prog 11 #[.agg #[.int .i64 i2, .int .i64 c], .agg #[.int .i64 i3, .int .i64 d]] w fun r' w' => r' = .returned (.int .i64 f) ∧ Below w.heap.size w w'))
    (C1 : Hid (∀ w : World, Calls Tryz.prog 11 #[.agg #[.int .i64 i0, .int .i64 a], .agg #[.int .i64 i3, .int .i64 d]] w fun r' w' => r' = .returned (.int .i64 v) ∧ Below w.heap.size w w'))
    (w : World) :
    Calls Tryz.prog 8 #[.agg #[.int .i64 i0, .int .i64 a], .agg #[.int .i64 i1, .int .i64 b], .agg #[.int .i64 i2, .int .i64 c], .agg #[.int .i64 i3, .int .i64 d]] w fun r' w' => r' = .returned (.tuple #[.bool true, .int .i64 0]) ∧ Below w.heap.size w w' := by
  subst ho
  have K0 : Hid (BS w [(w.heap.size + 3, [.int .i64 i3, .int .i64 d]), (w.heap.size + 2, [.int .i64 i2, .int .i64 c]), (w.heap.size + 1, [.int .i64 i1, .int .i64 b]), (w.heap.size, [.int .i64 i0, .int .i64 a])] ((((w.alloc (.cells #[.int .i64 i0, .int .i64 a] 23)).alloc (.cells #[.int .i64 i1, .int .i64 b] 23)).alloc (.cells #[.int .i64 i2, .int .i64 c] 23)).alloc (.cells #[.int .i64 i3, .int .i64 d] 23))) := (((((BS.start w).new [.int .i64 i0, .int .i64 a] 23 rfl).new [.int .i64 i1, .int .i64 b] 23 (by simp)).new [.int .i64 i2, .int .i64 c] 23 (by simp)).new [.int .i64 i3, .int .i64 d] 23 (by simp))
  go_enter Tryz.func8, Tryz.ntmps8
  go_wp2_with fail
  refine (R0.out _).mono ?_
  rintro e W1 ⟨rfl, hb⟩
  have K1 := bsb K0 hb
  clear hb K0
  obtain ⟨c1_0_0, c1_0_1⟩ := (bo1 K1).c2
  obtain ⟨c1_1_0, c1_1_1⟩ := (bo2 K1).c2
  obtain ⟨c1_2_0, c1_2_1⟩ := (bo3 K1).c2
  obtain ⟨c1_3_0, c1_3_1⟩ := (bo4 K1).c2
  go_wp2_with fail
  refine (R1.out _).mono ?_
  rintro e W2 ⟨rfl, hb⟩
  have K2 := bsb K1 hb
  clear c1_0_0 c1_0_1 c1_1_0 c1_1_1 c1_2_0 c1_2_1 c1_3_0 c1_3_1
  clear hb K1
  obtain ⟨c2_0_0, c2_0_1⟩ := (bo1 K2).c2
  obtain ⟨c2_1_0, c2_1_1⟩ := (bo2 K2).c2
  obtain ⟨c2_2_0, c2_2_1⟩ := (bo3 K2).c2
  obtain ⟨c2_3_0, c2_3_1⟩ := (bo4 K2).c2
  go_wp2_with fail
  refine (R2.out _).mono ?_
  rintro e W3 ⟨rfl, hb⟩
  have K3 := bsb K2 hb
  clear c2_0_0 c2_0_1 c2_1_0 c2_1_1 c2_2_0 c2_2_1 c2_3_0 c2_3_1
  clear hb K2
  obtain ⟨c3_0_0, c3_0_1⟩ := (bo1 K3).c2
  obtain ⟨c3_1_0, c3_1_1⟩ := (bo2 K3).c2
  obtain ⟨c3_2_0, c3_2_1⟩ := (bo3 K3).c2
  obtain ⟨c3_3_0, c3_3_1⟩ := (bo4 K3).c2
  go_wp2_with fail
  refine (R3.out _).mono ?_
  rintro e W4 ⟨rfl, hb⟩
  have K4 := bsb K3 hb
  clear c3_0_0 c3_0_1 c3_1_0 c3_1_1 c3_2_0 c3_2_1 c3_3_0 c3_3_1
  clear hb K3
  obtain ⟨c4_0_0, c4_0_1⟩ := (bo1 K4).c2
  obtain ⟨c4_1_0, c4_1_1⟩ := (bo2 K4).c2
  obtain ⟨c4_2_0, c4_2_1⟩ := (bo3 K4).c2
  obtain ⟨c4_3_0, c4_3_1⟩ := (bo4 K4).c2
  go_wp2_with fail
  refine (D1.out _).mono ?_
  rintro e W5 ⟨rfl, hb⟩
  have K5 := bsb K4 hb
  clear c4_0_0 c4_0_1 c4_1_0 c4_1_1 c4_2_0 c4_2_1 c4_3_0 c4_3_1
  clear hb K4
  obtain ⟨c5_0_0, c5_0_1⟩ := (bo1 K5).c2
  obtain ⟨c5_1_0, c5_1_1⟩ := (bo2 K5).c2
  obtain ⟨c5_2_0, c5_2_1⟩ := (bo3 K5).c2
  obtain ⟨c5_3_0, c5_3_1⟩ := (bo4 K5).c2
  go_wp2_with fail
  refine (D2.out _).mono ?_
  rintro e W6 ⟨rfl, hb⟩
  have K6 := bsb K5 hb
  clear c5_0_0 c5_0_1 c5_1_0 c5_1_1 c5_2_0 c5_2_1 c5_3_0 c5_3_1
  clear hb K5
  obtain ⟨c6_0_0, c6_0_1⟩ := (bo1 K6).c2
  obtain ⟨c6_1_0, c6_1_1⟩ := (bo2 K6).c2
  obtain ⟨c6_2_0, c6_2_1⟩ := (bo3 K6).c2
  obtain ⟨c6_3_0, c6_3_1⟩ := (bo4 K6).c2
  clear c6_0_0 c6_0_1 c6_1_0 c6_1_1 c6_2_0 c6_2_1 c6_3_0 c6_3_1
  have r6_1_0 : W6.cell? ⟨w.heap.size + 2, 0, none⟩ = some (.int .i64 i2) := (K6.out.at (w.heap.size + 2) [.int .i64 i2, .int .i64 c] (by simp)).c 0 rfl
  have sr6_1_0 : W6.frozen? ⟨w.heap.size + 2, 0, none⟩ = false := (K6.out.at (w.heap.size + 2) [.int .i64 i2, .int .i64 c] (by simp)).f 0 rfl
  have r6_1_1 : W6.cell? ⟨w.heap.size + 2, 1, none⟩ = some (.int .i64 c) := (K6.out.at (w.heap.size + 2) [.int .i64 i2, .int .i64 c] (by simp)).c 1 rfl
  have sr6_1_1 : W6.frozen? ⟨w.heap.size + 2, 1, none⟩ = false := (K6.out.at (w.heap.size + 2) [.int .i64 i2, .int .i64 c] (by simp)).f 1 rfl
  have r6_2_0 : W6.cell? ⟨w.heap.size + 3, 0, none⟩ = some (.int .i64 i3) := (K6.out.at (w.heap.size + 3) [.int .i64 i3, .int .i64 d] (by simp)).c 0 rfl
  have sr6_2_0 : W6.frozen? ⟨w.heap.size + 3, 0, none⟩ = false := (K6.out.at (w.heap.size + 3) [.int .i64 i3, .int .i64 d] (by simp)).f 0 rfl
  have r6_2_1 : W6.cell? ⟨w.heap.size + 3, 1, none⟩ = some (.int .i64 d) := (K6.out.at (w.heap.size + 3) [.int .i64 i3, .int .i64 d] (by simp)).c 1 rfl
  have sr6_2_1 : W6.frozen? ⟨w.heap.size + 3, 1, none⟩ = false := (K6.out.at (w.heap.size + 3) [.int .i64 i3, .int .i64 d] (by simp)).f 1 rfl
  have My6 := (K6.out.perm (l' := [(w.heap.size + 2, [.int .i64 i2, .int .i64 c]), (w.heap.size + 3, [.int .i64 i3, .int .i64 d]), (w.heap.size + 1, [.int .i64 i1, .int .i64 b]), (w.heap.size, [.int .i64 i0, .int .i64 a])]) (by intro x hx; simp only [List.mem_cons, List.not_mem_nil, or_false] at hx ⊢; rcases hx with h | h | h | h <;> simp [h])).set [.int .i64 i3, .int .i64 d] rfl (by intro x hx; simp only [List.mem_cons, List.not_mem_nil, or_false] at hx; rcases hx with rfl | rfl | rfl <;> simp only [] <;> omega)
  have Mz6 : Hid (BS w [(w.heap.size + 3, [.int .i64 i2, .int .i64 c]), (w.heap.size + 2, [.int .i64 i3, .int .i64 d]), (w.heap.size + 1, [.int .i64 i1, .int .i64 b]), (w.heap.size, [.int .i64 i0, .int .i64 a])] ((W6.setCells (w.heap.size + 2) 0 [.int .i64 i3, .int .i64 d]).setCells (w.heap.size + 3) 0 [.int .i64 i2, .int .i64 c])) := (My6.perm (l' := [(w.heap.size + 3, [.int .i64 i3, .int .i64 d]), (w.heap.size + 2, [.int .i64 i3, .int .i64 d]), (w.heap.size + 1, [.int .i64 i1, .int .i64 b]), (w.heap.size, [.int .i64 i0, .int .i64 a])]) (by intro x hx; simp only [List.mem_cons, List.not_mem_nil, or_false] at hx ⊢; rcases hx with h | h | h | h <;> simp [h])).set [.int .i64 i2, .int .i64 c] rfl (by intro x hx; simp only [List.mem_cons, List.not_mem_nil, or_false] at hx; rcases hx with rfl | rfl | rfl <;> simp only [] <;> omega)
  clear My6
  simp only [World.setCells, Nat.zero_add] at Mz6
  go_upto_region 7 with fail
  refine bs_to Mz6 ?_
  clear r6_1_0 sr6_1_0 r6_1_1 sr6_1_1 r6_2_0 sr6_2_0 r6_2_1 sr6_2_1
  intro W7 K7
  clear Mz6 K6
  obtain ⟨c7_0_0, c7_0_1⟩ := (bo1 K7).c2
  obtain ⟨c7_1_0, c7_1_1⟩ := (bo2 K7).c2
  obtain ⟨c7_2_0, c7_2_1⟩ := (bo3 K7).c2
  obtain ⟨c7_3_0, c7_3_1⟩ := (bo4 K7).c2
  go_wp2_with fail
  refine (C1.out _).mono ?_
  rintro e W8 ⟨rfl, hb⟩
  have K8 := bsb K7 hb
  clear c7_0_0 c7_0_1 c7_1_0 c7_1_1 c7_2_0 c7_2_1 c7_3_0 c7_3_1
  clear hb K7
  obtain ⟨c8_0_0, c8_0_1⟩ := (bo1 K8).c2
  obtain ⟨c8_1_0, c8_1_1⟩ := (bo2 K8).c2
  obtain ⟨c8_2_0, c8_2_1⟩ := (bo3 K8).c2
  obtain ⟨c8_3_0, c8_3_1⟩ := (bo4 K8).c2
  go_wp2
  go_ret2
  exact ⟨rfl, K8.out.1⟩

set_option maxRecDepth 100000 in
set_option maxHeartbeats 4000000 in
theorem rov_10m (i0 a i1 b i2 c i3 d e f v u : Int) (h1 : 0 < e) (h2 : ¬ 0 < f) (ho : v < 0)
    (R0 : Hid (∀ w : World, Calls Tryz.prog 13 #[.agg #[.int .i64 i0, .int .i64 a]] w fun r' w' => r' = .returned (.bool true) ∧ Below w.heap.size w w'))
    (R1 : Hid (∀ w : World, Calls Tryz.prog 13 #[.agg #[.int .i64 i1, .int .i64 b]] w fun r' w' => r' = .returned (.bool true) ∧ Below w.heap.size w w'))
    (R2 : Hid (∀ w : World, Calls Tryz.prog 13 #[.agg #[.int .i64 i2, .int .i64 c]] w fun r' w' => r' = .returned (.bool true) ∧ Below w.heap.size w w'))
    (R3 : Hid (∀ w : World, Calls Tryz.prog 13 #[.agg #[.int .i64 i3, .int .i64 d]] w fun r' w' => r' = .returned (.bool true) ∧ Below w.heap.size w w'))
    (D1 : Hid (∀ w : World, Calls Tryz.prog 11 #[.agg #[.int .i64 i0, .int .i64 a], .agg #[.int .i64 i1, .int .i64 b]] w fun r' w' => r' = .returned (.int .i64 e) ∧ Below w.heap.size w w'))
    (D2 : Hid (∀ w : World, Calls Tryz.prog 11 #[.agg #[.int .i64 i2, .int .i64 c], .agg #[.int .i64 i3, .int .i64 d]] w fun r' w' => r' = .returned (.int .i64 f) ∧ Below w.heap.size w w'))
    (C1 : Hid (∀ w : World, Calls Tryz.prog 11 #[.agg #[.int .i64 i1, .int .i64 b], .agg #[.int .i64 i2, .int .i64 c]] w fun r' w' => r' = .returned (.int .i64 v) ∧ Below w.heap.size w w'))
    (C2 : Hid (∀ w : World, Calls Tryz.prog 11 #[.agg #[.int .i64 i2, .int .i64 c], .agg #[.int .i64 i0, .int .i64 a]] w fun r' w' => r' = .returned (.int .i64 u) ∧ Below w.heap.size w w'))
    (w : World) :
    Calls Tryz.prog 8 #[.agg #[.int .i64 i0, .int .i64 a], .agg #[.int .i64 i1, .int .i64 b], .agg #[.int .i64 i2, .int .i64 c], .agg #[.int .i64 i3, .int .i64 d]] w fun r' w' => r' = .returned (.tuple #[.bool (decide (u < 0)), .int .i64 0]) ∧ Below w.heap.size w w' := by
  have ho1 : (v == 0) = false := by simp; omega
  have K0 : Hid (BS w [(w.heap.size + 3, [.int .i64 i3, .int .i64 d]), (w.heap.size + 2, [.int .i64 i2, .int .i64 c]), (w.heap.size + 1, [.int .i64 i1, .int .i64 b]), (w.heap.size, [.int .i64 i0, .int .i64 a])] ((((w.alloc (.cells #[.int .i64 i0, .int .i64 a] 23)).alloc (.cells #[.int .i64 i1, .int .i64 b] 23)).alloc (.cells #[.int .i64 i2, .int .i64 c] 23)).alloc (.cells #[.int .i64 i3, .int .i64 d] 23))) := (((((BS.start w).new [.int .i64 i0, .int .i64 a] 23 rfl).new [.int .i64 i1, .int .i64 b] 23 (by simp)).new [.int .i64 i2, .int .i64 c] 23 (by simp)).new [.int .i64 i3, .int .i64 d] 23 (by simp))
  go_enter Tryz.func8, Tryz.ntmps8
  go_wp2_with fail
  refine (R0.out _).mono ?_
  rintro e W1 ⟨rfl, hb⟩
  have K1 := bsb K0 hb
  clear hb K0
  obtain ⟨c1_0_0, c1_0_1⟩ := (bo1 K1).c2
  obtain ⟨c1_1_0, c1_1_1⟩ := (bo2 K1).c2
  obtain ⟨c1_2_0, c1_2_1⟩ := (bo3 K1).c2
  obtain ⟨c1_3_0, c1_3_1⟩ := (bo4 K1).c2
  go_wp2_with fail
  refine (R1.out _).mono ?_
  rintro e W2 ⟨rfl, hb⟩
  have K2 := bsb K1 hb
  clear c1_0_0 c1_0_1 c1_1_0 c1_1_1 c1_2_0 c1_2_1 c1_3_0 c1_3_1
  clear hb K1
  obtain ⟨c2_0_0, c2_0_1⟩ := (bo1 K2).c2
  obtain ⟨c2_1_0, c2_1_1⟩ := (bo2 K2).c2
  obtain ⟨c2_2_0, c2_2_1⟩ := (bo3 K2).c2
  obtain ⟨c2_3_0, c2_3_1⟩ := (bo4 K2).c2
  go_wp2_with fail
  refine (R2.out _).mono ?_
  rintro e W3 ⟨rfl, hb⟩
  have K3 := bsb K2 hb
  clear c2_0_0 c2_0_1 c2_1_0 c2_1_1 c2_2_0 c2_2_1 c2_3_0 c2_3_1
  clear hb K2
  obtain ⟨c3_0_0, c3_0_1⟩ := (bo1 K3).c2
  obtain ⟨c3_1_0, c3_1_1⟩ := (bo2 K3).c2
  obtain ⟨c3_2_0, c3_2_1⟩ := (bo3 K3).c2
  obtain ⟨c3_3_0, c3_3_1⟩ := (bo4 K3).c2
  go_wp2_with fail
  refine (R3.out _).mono ?_
  rintro e W4 ⟨rfl, hb⟩
  have K4 := bsb K3 hb
  clear c3_0_0 c3_0_1 c3_1_0 c3_1_1 c3_2_0 c3_2_1 c3_3_0 c3_3_1
  clear hb K3
  obtain ⟨c4_0_0, c4_0_1⟩ := (bo1 K4).c2
  obtain ⟨c4_1_0, c4_1_1⟩ := (bo2 K4).c2
  obtain ⟨c4_2_0, c4_2_1⟩ := (bo3 K4).c2
  obtain ⟨c4_3_0, c4_3_1⟩ := (bo4 K4).c2
  go_wp2_with fail
  refine (D1.out _).mono ?_
  rintro e W5 ⟨rfl, hb⟩
  have K5 := bsb K4 hb
  clear c4_0_0 c4_0_1 c4_1_0 c4_1_1 c4_2_0 c4_2_1 c4_3_0 c4_3_1
  clear hb K4
  obtain ⟨c5_0_0, c5_0_1⟩ := (bo1 K5).c2
  obtain ⟨c5_1_0, c5_1_1⟩ := (bo2 K5).c2
  obtain ⟨c5_2_0, c5_2_1⟩ := (bo3 K5).c2
  obtain ⟨c5_3_0, c5_3_1⟩ := (bo4 K5).c2
  clear c5_0_0 c5_0_1 c5_1_0 c5_1_1 c5_2_0 c5_2_1 c5_3_0 c5_3_1
  have r5_1_0 : W5.cell? ⟨w.heap.size, 0, none⟩ = some (.int .i64 i0) := (K5.out.at (w.heap.size) [.int .i64 i0, .int .i64 a] (by simp)).c 0 rfl
  have sr5_1_0 : W5.frozen? ⟨w.heap.size, 0, none⟩ = false := (K5.out.at (w.heap.size) [.int .i64 i0, .int .i64 a] (by simp)).f 0 rfl
  have r5_1_1 : W5.cell? ⟨w.heap.size, 1, none⟩ = some (.int .i64 a) := (K5.out.at (w.heap.size) [.int .i64 i0, .int .i64 a] (by simp)).c 1 rfl
  have sr5_1_1 : W5.frozen? ⟨w.heap.size, 1, none⟩ = false := (K5.out.at (w.heap.size) [.int .i64 i0, .int .i64 a] (by simp)).f 1 rfl
  have r5_2_0 : W5.cell? ⟨w.heap.size + 1, 0, none⟩ = some (.int .i64 i1) := (K5.out.at (w.heap.size + 1) [.int .i64 i1, .int .i64 b] (by simp)).c 0 rfl
  have sr5_2_0 : W5.frozen? ⟨w.heap.size + 1, 0, none⟩ = false := (K5.out.at (w.heap.size + 1) [.int .i64 i1, .int .i64 b] (by simp)).f 0 rfl
  have r5_2_1 : W5.cell? ⟨w.heap.size + 1, 1, none⟩ = some (.int .i64 b) := (K5.out.at (w.heap.size + 1) [.int .i64 i1, .int .i64 b] (by simp)).c 1 rfl
  have sr5_2_1 : W5.frozen? ⟨w.heap.size + 1, 1, none⟩ = false := (K5.out.at (w.heap.size + 1) [.int .i64 i1, .int .i64 b] (by simp)).f 1 rfl
  have My5 := (K5.out.perm (l' := [(w.heap.size, [.int .i64 i0, .int .i64 a]), (w.heap.size + 1, [.int .i64 i1, .int .i64 b]), (w.heap.size + 3, [.int .i64 i3, .int .i64 d]), (w.heap.size + 2, [.int .i64 i2, .int .i64 c])]) (by intro x hx; simp only [List.mem_cons, List.not_mem_nil, or_false] at hx ⊢; rcases hx with h | h | h | h <;> simp [h])).set [.int .i64 i1, .int .i64 b] rfl (by intro x hx; simp only [List.mem_cons, List.not_mem_nil, or_false] at hx; rcases hx with rfl | rfl | rfl <;> simp only [] <;> omega)
  have Mz5 : Hid (BS w [(w.heap.size + 1, [.int .i64 i0, .int .i64 a]), (w.heap.size, [.int .i64 i1, .int .i64 b]), (w.heap.size + 3, [.int .i64 i3, .int .i64 d]), (w.heap.size + 2, [.int .i64 i2, .int .i64 c])] ((W5.setCells (w.heap.size) 0 [.int .i64 i1, .int .i64 b]).setCells (w.heap.size + 1) 0 [.int .i64 i0, .int .i64 a])) := (My5.perm (l' := [(w.heap.size + 1, [.int .i64 i1, .int .i64 b]), (w.heap.size, [.int .i64 i1, .int .i64 b]), (w.heap.size + 3, [.int .i64 i3, .int .i64 d]), (w.heap.size + 2, [.int .i64 i2, .int .i64 c])]) (by intro x hx; simp only [List.mem_cons, List.not_mem_nil, or_false] at hx ⊢; rcases hx with h | h | h | h <;> simp [h])).set [.int .i64 i0, .int .i64 a] rfl (by intro x hx; simp only [List.mem_cons, List.not_mem_nil, or_false] at hx; rcases hx with rfl | rfl | rfl <;> simp only [] <;> omega)
  clear My5
  simp only [World.setCells, Nat.zero_add] at Mz5
  go_upto_region 5 with fail
  refine bs_to Mz5 ?_
  clear r5_1_0 sr5_1_0 r5_1_1 sr5_1_1 r5_2_0 sr5_2_0 r5_2_1 sr5_2_1
  intro W6 K6
  clear Mz5 K5
  obtain ⟨c6_0_0, c6_0_1⟩ := (bo1 K6).c2
  obtain ⟨c6_1_0, c6_1_1⟩ := (bo2 K6).c2
  obtain ⟨c6_2_0, c6_2_1⟩ := (bo3 K6).c2
  obtain ⟨c6_3_0, c6_3_1⟩ := (bo4 K6).c2
  go_wp2_with fail
  refine (D2.out _).mono ?_
  rintro e W7 ⟨rfl, hb⟩
  have K7 := bsb K6 hb
  clear c6_0_0 c6_0_1 c6_1_0 c6_1_1 c6_2_0 c6_2_1 c6_3_0 c6_3_1
  clear hb K6
  obtain ⟨c7_0_0, c7_0_1⟩ := (bo1 K7).c2
  obtain ⟨c7_1_0, c7_1_1⟩ := (bo2 K7).c2
  obtain ⟨c7_2_0, c7_2_1⟩ := (bo3 K7).c2
  obtain ⟨c7_3_0, c7_3_1⟩ := (bo4 K7).c2
  go_wp2_with fail
  refine (C1.out _).mono ?_
  rintro e W8 ⟨rfl, hb⟩
  have K8 := bsb K7 hb
  clear c7_0_0 c7_0_1 c7_1_0 c7_1_1 c7_2_0 c7_2_1 c7_3_0 c7_3_1
  clear hb K7
  obtain ⟨c8_0_0, c8_0_1⟩ := (bo1 K8).c2
  obtain ⟨c8_1_0, c8_1_1⟩ := (bo2 K8).c2
  obtain ⟨c8_2_0, c8_2_1⟩ := (bo3 K8).c2
  obtain ⟨c8_3_0, c8_3_1⟩ := (bo4 K8).c2
  go_wp2_with fail
  refine (C2.out _).mono ?_
  rintro e W9 ⟨rfl, hb⟩
  have K9 := bsb K8 hb
  clear c8_0_0 c8_0_1 c8_1_0 c8_1_1 c8_2_0 c8_2_1 c8_3_0 c8_3_1
  clear hb K8
  obtain ⟨c9_0_0, c9_0_1⟩ := (bo1 K9).c2
  obtain ⟨c9_1_0, c9_1_1⟩ := (bo2 K9).c2
  obtain ⟨c9_2_0, c9_2_1⟩ := (bo3 K9).c2
  obtain ⟨c9_3_0, c9_3_1⟩ := (bo4 K9).c2
  go_wp2
  go_ret2
  exact ⟨rfl, K9.out.1⟩

set_option maxRecDepth 100000 in
set_option maxHeartbeats 4000000 in
theorem rov_10p (i0 a i1 b i2 c i3 d e f v u : Int) (h1 : 0 < e) (h2 : ¬ 0 < f) (ho : 0 < v)
    (R0 : Hid (∀ w : World, Calls Tryz.prog 13 #[.agg #[.int .i64 i0, .int .i64 a]] w fun r' w' => r' = .returned (.bool true) ∧ Below w.heap.size w w'))
    (R1 : Hid (∀ w : World, Calls Tryz.prog 13 #[.agg #[.int .i64 i1, .int .i64 b]] w fun r' w' => r' = .returned (.bool true) ∧ Below w.heap.size w w'))
    (R2 : Hid (∀ w : World, Calls Tryz.prog 13 #[.agg #[.int .i64 i2, .int .i64 c]] w fun r' w' => r' = .returned (.bool true) ∧ Below w.heap.size w w'))
    (R3 : Hid (∀ w : World, Calls Tryz.prog 13 #[.agg #[.int .i64 i3, .int .i64 d]] w fun r' w' => r' = .returned (.bool true) ∧ Below w.heap.size w w'))
    (D1 : Hid (∀ w : World, Calls Tryz.prog 11 #[.agg #[.int .i64 i0, .int .i64 a], .agg #[.int .i64 i1, .int .i64 b]] w fun r' w' => r' = .returned (.int .i64 e) ∧ Below w.heap.size w w'))
    (D2 : Hid (∀ w : World, Calls Tryz.prog 11 #[.agg #[.int .i64 i2, .int .i64 c], .agg #[.int .i64 i3, .int .i64 d]] w fun r' w' => r' = .returned (.int .i64 f) ∧ Below w.heap.size w w'))
    (C1 : Hid (∀ w : World, Calls Tryz.prog 11 #[.agg #[.int .i64 i1, .int .i64 b], .agg #[.int .i64 i2, .int .i64 c]] w fun r' w' => r' = .returned (.int .i64 v) ∧ Below w.heap.size w w'))
    (C2 : Hid (∀ w : World, Calls Tryz.prog 11 #[.agg #[.int .i64 i1, .int .i64 b], .agg #[.int .i64 i3, .int .i64 d]] w fun r' w' => r' = .returned (.int .i64 u) ∧ Below w.heap.size w w'))
    (w : World) :
    Calls Tryz.prog 8 #[.agg #[.int .i64 i0, .int .i64 a], .agg #[.int .i64 i1, .int .i64 b], .agg #[.int .i64 i2, .int .i64 c], .agg #[.int .i64 i3, .int .i64 d]] w fun r' w' => r' = .returned (.tuple #[.bool (decide (u < 0)), .int .i64 0]) ∧ Below w.heap.size w w' := by
  have ho1 : (v == 0) = false := by simp; omega
  have ho2 : ¬ v < 0 := by omega
  have K0 : Hid (BS w [(w.heap.size + 3, [.int .i64 i3, .int .i64 d]), (w.heap.size + 2, [.int .i64 i2, .int .i64 c]), (w.heap.size + 1, [.int .i64 i1, .int .i64 b]), (w.heap.size, [.int .i64 i0, .int .i64 a])] ((((w.alloc (.cells #[.int .i64 i0, .int .i64 a] 23)).alloc (.cells #[.int .i64 i1, .int .i64 b] 23)).alloc (.cells #[.int .i64 i2, .int .i64 c] 23)).alloc (.cells #[.int .i64 i3, .int .i64 d] 23))) := (((((BS.start w).new [.int .i64 i0, .int .i64 a] 23 rfl).new [.int .i64 i1, .int .i64 b] 23 (by simp)).new [.int .i64 i2, .int .i64 c] 23 (by simp)).new [.int .i64 i3, .int .i64 d] 23 (by simp))
  go_enter Tryz.func8, Tryz.ntmps8
  go_wp2_with fail
  refine (R0.out _).mono ?_
  rintro e W1 ⟨rfl, hb⟩
  have K1 := bsb K0 hb
  clear hb K0
  obtain ⟨c1_0_0, c1_0_1⟩ := (bo1 K1).c2
  obtain ⟨c1_1_0, c1_1_1⟩ := (bo2 K1).c2
  obtain ⟨c1_2_0, c1_2_1⟩ := (bo3 K1).c2
  obtain ⟨c1_3_0, c1_3_1⟩ := (bo4 K1).c2
  go_wp2_with fail
  refine (R1.out _).mono ?_
  rintro e W2 ⟨rfl, hb⟩
  have K2 := bsb K1 hb
  clear c1_0_0 c1_0_1 c1_1_0 c1_1_1 c1_2_0 c1_2_1 c1_3_0 c1_3_1
  clear hb K1
  obtain ⟨c2_0_0, c2_0_1⟩ := (bo1 K2).c2
  obtain ⟨c2_1_0, c2_1_1⟩ := (bo2 K2).c2
  obtain ⟨c2_2_0, c2_2_1⟩ := (bo3 K2).c2
  obtain ⟨c2_3_0, c2_3_1⟩ := (bo4 K2).c2
  go_wp2_with fail
  refine (R2.out _).mono ?_
  rintro e W3 ⟨rfl, hb⟩
  have K3 := bsb K2 hb
  clear c2_0_0 c2_0_1 c2_1_0 c2_1_1 c2_2_0 c2_2_1 c2_3_0 c2_3_1
  clear hb K2
  obtain ⟨c3_0_0, c3_0_1⟩ := (bo1 K3).c2
  obtain ⟨c3_1_0, c3_1_1⟩ := (bo2 K3).c2
  obtain ⟨c3_2_0, c3_2_1⟩ := (bo3 K3).c2
  obtain ⟨c3_3_0, c3_3_1⟩ := (bo4 K3).c2
  go_wp2_with fail
  refine (R3.out _).mono ?_
  rintro e W4 ⟨rfl, hb⟩
  have K4 := bsb K3 hb
  clear c3_0_0 c3_0_1 c3_1_0 c3_1_1 c3_2_0 c3_2_1 c3_3_0 c3_3_1
  clear hb K3
  obtain ⟨c4_0_0, c4_0_1⟩ := (bo1 K4).c2
  obtain ⟨c4_1_0, c4_1_1⟩ := (bo2 K4).c2
  obtain ⟨c4_2_0, c4_2_1⟩ := (bo3 K4).c2
  obtain ⟨c4_3_0, c4_3_1⟩ := (bo4 K4).c2
  go_wp2_with fail
  refine (D1.out _).mono ?_
  rintro e W5 ⟨rfl, hb⟩
  have K5 := bsb K4 hb
  clear c4_0_0 c4_0_1 c4_1_0 c4_1_1 c4_2_0 c4_2_1 c4_3_0 c4_3_1
  clear hb K4
  obtain ⟨c5_0_0, c5_0_1⟩ := (bo1 K5).c2
  obtain ⟨c5_1_0, c5_1_1⟩ := (bo2 K5).c2
  obtain ⟨c5_2_0, c5_2_1⟩ := (bo3 K5).c2
  obtain ⟨c5_3_0, c5_3_1⟩ := (bo4 K5).c2
  clear c5_0_0 c5_0_1 c5_1_0 c5_1_1 c5_2_0 c5_2_1 c5_3_0 c5_3_1
  have r5_1_0 : W5.cell? ⟨w.heap.size, 0, none⟩ = some (.int .i64 i0) := (K5.out.at (w.heap.size) [.int .i64 i0, .int .i64 a] (by simp)).c 0 rfl
  have sr5_1_0 : W5.frozen? ⟨w.heap.size, 0, none⟩ = false := (K5.out.at (w.heap.size) [.int .i64 i0, .int .i64 a] (by simp)).f 0 rfl
  have r5_1_1 : W5.cell? ⟨w.heap.size, 1, none⟩ = some (.int .i64 a) := (K5.out.at (w.heap.size) [.int .i64 i0, .int .i64 a] (by simp)).c 1 rfl
  have sr5_1_1 : W5.frozen? ⟨w.heap.size, 1, none⟩ = false := (K5.out.at (w.heap.size) [.int .i64 i0, .int .i64 a] (by simp)).f 1 rfl
  have r5_2_0 : W5.cell? ⟨w.heap.size + 1, 0, none⟩ = some (.int .i64 i1) := (K5.out.at (w.heap.size + 1) [.int .i64 i1, .int .i64 b] (by simp)).c 0 rfl
  have sr5_2_0 : W5.frozen? ⟨w.heap.size + 1, 0, none⟩ = false := (K5.out.at (w.heap.size + 1) [.int .i64 i1, .int .i64 b] (by simp)).f 0 rfl
  have r5_2_1 : W5.cell? ⟨w.heap.size + 1, 1, none⟩ = some (.int .i64 b) := (K5.out.at (w.heap.size + 1) [.int .i64 i1, .int .i64 b] (by simp)).c 1 rfl
  have sr5_2_1 : W5.frozen? ⟨w.heap.size + 1, 1, none⟩ = false := (K5.out.at (w.heap.size + 1) [.int .i64 i1, .int .i64 b] (by simp)).f 1 rfl
  have My5 := (K5.out.perm (l' := [(w.heap.size, [.int .i64 i0, .int .i64 a]), (w.heap.size + 1, [.int .i64 i1, .int .i64 b]), (w.heap.size + 3, [.int .i64 i3, .int .i64 d]), (w.heap.size + 2, [.int .i64 i2, .int .i64 c])]) (by intro x hx; simp only [List.mem_cons, List.not_mem_nil, or_false] at hx ⊢; rcases hx with h | h | h | h <;> simp [h])).set [.int .i64 i1, .int .i64 b] rfl (by intro x hx; simp only [List.mem_cons, List.not_mem_nil, or_false] at hx; rcases hx with rfl | rfl | rfl <;> simp only [] <;> omega)
  have Mz5 : Hid (BS w [(w.heap.size + 1, [.int .i64 i0, .int .i64 a]), (w.heap.size, [.int .i64 i1, .int .i64 b]), (w.heap.size + 3, [.int .i64 i3, .int .i64 d]), (w.heap.size + 2, [.int .i64 i2, .int .i64 c])] ((W5.setCells (w.heap.size) 0 [.int .i64 i1, .int .i64 b]).setCells (w.heap.size + 1) 0 [.int .i64 i0, .int .i64 a])) := (My5.perm (l' := [(w.heap.size + 1, [.int .i64 i1, .int .i64 b]), (w.heap.size, [.int .i64 i1, .int .i64 b]), (w.heap.size + 3, [.int .i64 i3, .int .i64 d]), (w.heap.size + 2, [.int .i64 i2, .int .i64 c])]) (by intro x hx; simp only [List.mem_cons, List.not_mem_nil, or_false] at hx ⊢; rcases hx with h | h | h | h <;> simp [h])).set [.int .i64 i0, .int .i64 a] rfl (by intro x hx; simp only [List.mem_cons, List.not_mem_nil, or_false] at hx; rcases hx with rfl | rfl | rfl <;> simp only [] <;> omega)
  clear My5
  simp only [World.setCells, Nat.zero_add] at Mz5
  go_upto_region 5 with fail
  refine bs_to Mz5 ?_
  clear r5_1_0 sr5_1_0 r5_1_1 sr5_1_1 r5_2_0 sr5_2_0 r5_2_1 sr5_2_1
  intro W6 K6
  clear Mz5 K5
  obtain ⟨c6_0_0, c6_0_1⟩ := (bo1 K6).c2
  obtain ⟨c6_1_0, c6_1_1⟩ := (bo2 K6).c2
  obtain ⟨c6_2_0, c6_2_1⟩ := (bo3 K6).c2
  obtain ⟨c6_3_0, c6_3_1⟩ := (bo4 K6).c2
  go_wp2_with fail
  refine (D2.out _).mono ?_
  rintro e W7 ⟨rfl, hb⟩
  have K7 := bsb K6 hb
  clear c6_0_0 c6_0_1 c6_1_0 c6_1_1 c6_2_0 c6_2_1 c6_3_0 c6_3_1
  clear hb K6
  obtain ⟨c7_0_0, c7_0_1⟩ := (bo1 K7).c2
  obtain ⟨c7_1_0, c7_1_1⟩ := (bo2 K7).c2
  obtain ⟨c7_2_0, c7_2_1⟩ := (bo3 K7).c2
  obtain ⟨c7_3_0, c7_3_1⟩ := (bo4 K7).c2
  go_wp2_with fail
  refine (C1.out _).mono ?_
  rintro e W8 ⟨rfl, hb⟩
  have K8 := bsb K7 hb
  clear c7_0_0 c7_0_1 c7_1_0 c7_1_1 c7_2_0 c7_2_1 c7_3_0 c7_3_1
  clear hb K7
  obtain ⟨c8_0_0, c8_0_1⟩ := (bo1 K8).c2
  obtain ⟨c8_1_0, c8_1_1⟩ := (bo2 K8).c2
  obtain ⟨c8_2_0, c8_2_1⟩ := (bo3 K8).c2
  obtain ⟨c8_3_0, c8_3_1⟩ := (bo4 K8).c2
  go_wp2_with fail
  refine (C2.out _).mono ?_
  rintro e W9 ⟨rfl, hb⟩
  have K9 := bsb K8 hb
  clear c8_0_0 c8_0_1 c8_1_0 c8_1_1 c8_2_0 c8_2_1 c8_3_0 c8_3_1
  clear hb K8
  obtain ⟨c9_0_0, c9_0_1⟩ := (bo1 K9).c2
  obtain ⟨c9_1_0, c9_1_1⟩ := (bo2 K9).c2
  obtain ⟨c9_2_0, c9_2_1⟩ := (bo3 K9).c2
  obtain ⟨c9_3_0, c9_3_1⟩ := (bo4 K9).c2
  go_wp2
  go_ret2
  exact ⟨rfl, K9.out.1⟩

set_option maxRecDepth 100000 in
set_option maxHeartbeats 4000000 in
theorem rov_10z (i0 a i1 b i2 c i3 d e f v u : Int) (h1 : 0 < e) (h2 : ¬ 0 < f) (ho : v = 0)
    (R0 : Hid (∀ w : World, Calls Tryz.prog 13 #[.agg #[.int .i64 i0, .int .i64 a]] w fun r' w' => r' = .returned (.bool true) ∧ Below w.heap.size w w'))
    (R1 : Hid (∀ w : World, Calls Tryz.prog 13 #[.agg #[.int .i64 i1, .int .i64 b]] w fun r' w' => r' = .returned (.bool true) ∧ Below w.heap.size w w'))
    (R2 : Hid (∀ w : World, Calls Tryz.prog 13 #[.agg #[.int .i64 i2, .int .i64 c]] w fun r' w' => r' = .returned (.bool true) ∧ Below w.heap.size w w'))
    (R3 : Hid (∀ w : World, Calls Tryz.prog 13 #[.agg #[.int .i64 i3, .int .i64 d]] w fun r' w' => r' = .returned (.bool true) ∧ Below w.heap.size w w'))
    (D1 : Hid (∀ w : World, Calls Tryz.prog 11 #[.agg #[.int .i64 i0, .int .i64 a], .agg #[.int .i64 i1, .int .i64 b]] w fun r' w' => r' = .returned (.int .i64 e) ∧ Below w.heap.size w w'))
    (D2 : Hid (∀ w : World, Calls Tryz.prog 11 #[.agg #[.int .i64 i2, .int .i64 c], .agg #[.int .i64 i3, .int .i64 d]] w fun r' w' => r' = .returned (.int .i64 f) ∧ Below w.heap.size w w'))
    (C1 : Hid (∀ w : World, Calls Tryz.prog 11 #[.agg #[.int .i64 i1, .int .i64 b], .agg #[.int .i64 i2, .int .i64 c]] w fun r' w' => r' = .returned (.int .i64 v) ∧ Below w.heap.size w w'))
    (w : World) :
    Calls Tryz.prog 8 #[.agg #[.int .i64 i0, .int .i64 a], .agg #[.int .i64 i1, .int .i64 b], .agg #[.int .i64 i2, .int .i64 c], .agg #[.int .i64 i3, .int .i64 d]] w fun r' w' => r' = .returned (.tuple #[.bool true, .int .i64 0]) ∧ Below w.heap.size w w' := by
  subst ho
  have K0 : Hid (BS w [(w.heap.size + 3, [.int .i64 i3, .int .i64 d]), (w.heap.size + 2, [.int .i64 i2, .int .i64 c]), (w.heap.size + 1, [.int .i64 i1, .int .i64 b]), (w.heap.size, [.int .i64 i0, .int .i64 a])] ((((w.alloc (.cells #[.int .i64 i0, .int .i64 a] 23)).alloc (.cells #[.int .i64 i1, .int .i64 b] 23)).alloc (.cells #[.int .i64 i2, .int .i64 c] 23)).alloc (.cells #[.int .i64 i3, .int .i64 d] 23))) := (((((BS.start w).new [.int .i64 i0, .int .i64 a] 23 rfl).new [.int .i64 i1, .int .i64 b] 23 (by simp)).new [.int .i64 i2, .int .i64 c] 23 (by simp)).new [.int .i64 i3, .int .i64 d] 23 (by simp))
  go_enter Tryz.func8, Tryz.ntmps8
  go_wp2_with fail
  refine (R0.out _).mono ?_
  rintro e W1 ⟨rfl, hb⟩
  have K1 := bsb K0 hb
  clear hb K0
  obtain ⟨c1_0_0, c1_0_1⟩ := (bo1 K1).c2
  obtain ⟨c1_1_0, c1_1_1⟩ := (bo2 K1).c2
  obtain ⟨c1_2_0, c1_2_1⟩ := (bo3 K1).c2
  obtain ⟨c1_3_0, c1_3_1⟩ := (bo4 K1).c2
  go_wp2_with fail
  refine (R1.out _).mono ?_
  rintro e W2 ⟨rfl, hb⟩
  have K2 := bsb K1 hb
  clear c1_0_0 c1_0_1 c1_1_0 c1_1_1 c1_2_0 c1_2_1 c1_3_0 c1_3_1
  clear hb K1
  obtain ⟨c2_0_0, c2_0_1⟩ := (bo1 K2).c2
  obtain ⟨c2_1_0, c2_1_1⟩ := (bo2 K2).c2
  obtain ⟨c2_2_0, c2_2_1⟩ := (bo3 K2).c2
  obtain ⟨c2_3_0, c2_3_1⟩ := (bo4 K2).c2
  go_wp2_with fail
  refine (R2.out _).mono ?_
  rintro e W3 ⟨rfl, hb⟩
  have K3 := bsb K2 hb
  clear c2_0_0 c2_0_1 c2_1_0 c2_1_1 c2_2_0 c2_2_1 c2_3_0 c2_3_1
  clear hb K2
  obtain ⟨c3_0_0, c3_0_1⟩ := (bo1 K3).c2
  obtain ⟨c3_1_0, c3_1_1⟩ := (bo2 K3).c2
  obtain ⟨c3_2_0, c3_2_1⟩ := (bo3 K3).c2
  obtain ⟨c3_3_0, c3_3_1⟩ := (bo4 K3).c2
  go_wp2_with fail
  refine (R3.out _).mono ?_
  rintro e W4 ⟨rfl, hb⟩
  have K4 := bsb K3 hb
  clear c3_0_0 c3_0_1 c3_1_0 c3_1_1 c3_2_0 c3_2_1 c3_3_0 c3_3_1
  clear hb K3
  obtain ⟨c4_0_0, c4_0_1⟩ := (bo1 K4).c2
  obtain ⟨c4_1_0, c4_1_1⟩ := (bo2 K4).c2
  obtain ⟨c4_2_0, c4_2_1⟩ := (bo3 K4).c2
  obtain ⟨c4_3_0, c4_3_1⟩ := (bo4 K4).c2
  go_wp2_with fail
  refine (D1.out _).mono ?_
  rintro e W5 ⟨rfl, hb⟩
  have K5 := bsb K4 hb
  clear c4_0_0 c4_0_1 c4_1_0 c4_1_1 c4_2_0 c4_2_1 c4_3_0 c4_3_1
  clear hb K4
  obtain ⟨c5_0_0, c5_0_1⟩ := (bo1 K5).c2
  obtain ⟨c5_1_0, c5_1_1⟩ := (bo2 K5).c2
  obtain ⟨c5_2_0, c5_2_1⟩ := (bo3 K5).c2
  obtain ⟨c5_3_0, c5_3_1⟩ := (bo4 K5).c2
  clear c5_0_0 c5_0_1 c5_1_0 c5_1_1 c5_2_0 c5_2_1 c5_3_0 c5_3_1
  have r5_1_0 : W5.cell? ⟨w.heap.size, 0, none⟩ = some (.int .i64 i0) := (K5.out.at (w.heap.size) [.int .i64 i0, .int .i64 a] (by simp)).c 0 rfl
  have sr5_1_0 : W5.frozen? ⟨w.heap.size, 0, none⟩ = false := (K5.out.at (w.heap.size) [.int .i64 i0, .int .i64 a] (by simp)).f 0 rfl
  have r5_1_1 : W5.cell? ⟨w.heap.size, 1, none⟩ = some (.int .i64 a) := (K5.out.at (w.heap.size) [.int .i64 i0, .int .i64 a] (by simp)).c 1 rfl
  have sr5_1_1 : W5.frozen? ⟨w.heap.size, 1, none⟩ = false := (K5.out.at (w.heap.size) [.int .i64 i0, .int .i64 a] (by simp)).f 1 rfl
  have r5_2_0 : W5.cell? ⟨w.heap.size + 1, 0, none⟩ = some (.int .i64 i1) := (K5.out.at (w.heap.size + 1) [.int .i64 i1, .int .i64 b] (by simp)).c 0 rfl
  have sr5_2_0 : W5.frozen? ⟨w.heap.size + 1, 0, none⟩ = false := (K5.out.at (w.heap.size + 1) [.int .i64 i1, .int .i64 b] (by simp)).f 0 rfl
  have r5_2_1 : W5.cell? ⟨w.heap.size + 1, 1, none⟩ = some (.int .i64 b) := (K5.out.at (w.heap.size + 1) [.int .i64 i1, .int .i64 b] (by simp)).c 1 rfl
  have sr5_2_1 : W5.frozen? ⟨w.heap.size + 1, 1, none⟩ = false := (K5.out.at (w.heap.size + 1) [.int .i64 i1, .int .i64 b] (by simp)).f 1 rfl
  have My5 := (K5.out.perm (l' := [(w.heap.size, [.int .i64 i0, .int .i64 a]), (w.heap.size + 1, [.int .i64 i1, .int .i64 b]), (w.heap.size + 3, [.int .i64 i3, .int .i64 d]), (w.heap.size + 2, [.int .i64 i2, .int .i64 c])]) (by intro x hx; simp only [List.mem_cons, List.not_mem_nil, or_false] at hx ⊢; rcases hx with h | h | h | h <;> simp [h])).set [.int .i64 i1, .int .i64 b] rfl (by intro x hx; simp only [List.mem_cons, List.not_mem_nil, or_false] at hx; rcases hx with rfl | rfl | rfl <;> simp only [] <;> omega)
  have Mz5 : Hid (BS w [(w.heap.size + 1, [.int .i64 i0, .int .i64 a]), (w.heap.size, [.int .i64 i1, .int .i64 b]), (w.heap.size + 3, [.int .i64 i3, .int .i64 d]), (w.heap.size + 2, [.int .i64 i2, .int .i64 c])] ((W5.setCells (w.heap.size) 0 [.int .i64 i1, .int .i64 b]).setCells (w.heap.size + 1) 0 [.int .i64 i0, .int .i64 a])) := (My5.perm (l' := [(w.heap.size + 1, [.int .i64 i1, .int .i64 b]), (w.heap.size, [.int .i64 i1, .int .i64 b]), (w.heap.size + 3, [.int .i64 i3, .int .i64 d]), (w.heap.size + 2, [.int .i64 i2, .int .i64 c])]) (by intro x hx; simp only [List.mem_cons, List.not_mem_nil, or_false] at hx ⊢; rcases hx with h | h | h | h <;> simp [h])).set [.int .i64 i0, .int .i64 a] rfl (by intro x hx; simp only [List.mem_cons, List.not_mem_nil, or_false] at hx; rcases hx with rfl | rfl | rfl <;> simp only [] <;> omega)
  clear My5
  simp only [World.setCells, Nat.zero_add] at Mz5
  go_upto_region 5 with fail
  refine bs_to Mz5 ?_
  clear r5_1_0 sr5_1_0 r5_1_1 sr5_1_1 r5_2_0 sr5_2_0 r5_2_1 sr5_2_1
  intro W6 K6
  clear Mz5 K5
  obtain ⟨c6_0_0, c6_0_1⟩ := (bo1 K6).c2
  obtain ⟨c6_1_0, c6_1_1⟩ := (bo2 K6).c2
  obtain ⟨c6_2_0, c6_2_1⟩ := (bo3 K6).c2
  obtain ⟨c6_3_0, c6_3_1⟩ := (bo4 K6).c2
  go_wp2_with fail
  refine (D2.out _).mono ?_
  rintro e W7 ⟨rfl, hb⟩
  have K7 := bsb K6 hb
  clear c6_0_0 c6_0_1 c6_1_0 c6_1_1 c6_2_0 c6_2_1 c6_3_0 c6_3_1
  clear hb K6
  obtain ⟨c7_0_0, c7_0_1⟩ := (bo1 K7).c2
  obtain ⟨c7_1_0, c7_1_1⟩ := (bo2 K7).c2
  obtain ⟨c7_2_0, c7_2_1⟩ := (bo3 K7).c2
  obtain ⟨c7_3_0, c7_3_1⟩ := (bo4 K7).c2
  go_wp2_with fail
  refine (C1.out _).mono ?_
  rintro e W8 ⟨rfl, hb⟩
  have K8 := bsb K7 hb
  clear c7_0_0 c7_0_1 c7_1_0 c7_1_1 c7_2_0 c7_2_1 c7_3_0 c7_3_1
  clear hb K7
  obtain ⟨c8_0_0, c8_0_1⟩ := (bo1 K8).c2
  obtain ⟨c8_1_0, c8_1_1⟩ := (bo2 K8).c2
  obtain ⟨c8_2_0, c8_2_1⟩ := (bo3 K8).c2
  obtain ⟨c8_3_0, c8_3_1⟩ := (bo4 K8).c2
  go_wp2
  go_ret2
  exact ⟨rfl, K8.out.1⟩

set_option maxRecDepth 100000 in
set_option maxHeartbeats 4000000 in
theorem rov_11m (i0 a i1 b i2 c i3 d e f v u : Int) (h1 : 0 < e) (h2 : 0 < f) (ho : v < 0)
    (R0 : Hid (∀ w : World, Calls Tryz.prog 13 #[.agg #[.int .i64 i0, .int .i64 a]] w fun r' w' => r' = .returned (.bool true) ∧ Below w.heap.size w w'))
    (R1 : Hid (∀ w : World, Calls Tryz.prog 13 #[.agg #[.int .i64 i1, .int .i64 b]] w fun r' w' => r' = .returned (.bool true) ∧ Below w.heap.size w w'))
    (R2 : Hid (∀ w : World, Calls Tryz.prog 13 #[.agg #[.int .i64 i2, .int .i64 c]] w fun r' w' => r' = .returned (.bool true) ∧ Below w.heap.size w w'))
    (R3 : Hid (∀ w : World, Calls Tryz.prog 13 #[.agg #[.int .i64 i3, .int .i64 d]] w fun r' w' => r' = .returned (.bool true) ∧ Below w.heap.size w w'))
    (D1 : Hid (∀ w : World, Calls Tryz.prog 11 #[.agg #[.int .i64 i0, .int .i64 a], .agg #[.int .i64 i1, .int .i64 b]] w fun r' w' => r' = .returned (.int .i64 e) ∧ Below w.heap.size w w'))
    (D2 : Hid (∀ w : World, Calls Tryz.prog 11 #[.agg #[.int .i64 i2, .int .i64 c], .agg #[.int .i64 i3, .int .i64 d]] w fun r' w' => r' = .returned (.int .i64 f) ∧ Below w.heap.size w w'))
    (C1 : Hid (∀ w : World, Calls Tryz.prog 11 #[.agg #[.int .i64 i1, .int .i64 b], .agg #[.int .i64 i3, .int .i64 d]] w fun r' w' => r' = .returned (.int .i64 v) ∧ Below w.heap.size w w'))
    (C2 : Hid (∀ w : World, Calls Tryz.prog 11 #[.agg #[.int .i64 i3, .int .i64 d], .agg #[.int .i64 i0, .int .i64 a]] w fun r' w' => r' = .returned (.int .i64 u) ∧ Below w.heap.size w w'))
    (w : World) :
    Calls Tryz.prog 8 #[.agg #[.int .i64 i0, .int .i64 a], .agg #[.int .i64 i1, .int .i64 b], .agg #[.int .i64 i2, .int .i64 c], .agg #[.int .i64 i3, .int .i64 d]] w fun r' w' => r' = .returned (.tuple #[.bool (decide (u < 0)), .int .i64 0]) ∧ Below w.heap.size w w' := by
  have ho1 : (v == 0) = false := by simp; omega
  have K0 : Hid (BS w [(w.heap.size + 3, [.int .i64 i3, .int .i64 d]), (w.heap.size + 2, [.int .i64 i2, .int .i64 c]), (w.heap.size + 1, [.int .i64 i1, .int .i64 b]), (w.heap.size, [.int .i64 i0, .int .i64 a])] ((((w.alloc (.cells #[.int .i64 i0, .int .i64 a] 23)).alloc (.cells #[.int .i64 i1, .int .i64 b] 23)).alloc (.cells #[.int .i64 i2, .int .i64 c] 23)).alloc (.cells #[.int .i64 i3, .int .i64 d] 23))) := (((((BS.start w).new [.int .i64 i0, .int .i64 a] 23 rfl).new [.int .i64 i1, .int .i64 b] 23 (by simp)).new [.int .i64 i2, .int .i64 c] 23 (by simp)).new [.int .i64 i3, .int .i64 d] 23 (by simp))
  go_enter Tryz.func8, Tryz.ntmps8
  go_wp2_with fail
  refine (R0.out _).mono ?_
  rintro e W1 ⟨rfl, hb⟩
  have K1 := bsb K0 hb
  clear hb K0
  obtain ⟨c1_0_0, c1_0_1⟩ := (bo1 K1).c2
  obtain ⟨c1_1_0, c1_1_1⟩ := (bo2 K1).c2
  obtain ⟨c1_2_0, c1_2_1⟩ := (bo3 K1).c2
  obtain ⟨c1_3_0, c1_3_1⟩ := (bo4 K1).c2
  go_wp2_with fail
  refine (R1.out _).mono ?_
  rintro e W2 ⟨rfl, hb⟩
  have K2 := bsb K1 hb
  clear c1_0_0 c1_0_1 c1_1_0 c1_1_1 c1_2_0 c1_2_1 c1_3_0 c1_3_1
  clear hb K1
  obtain ⟨c2_0_0, c2_0_1⟩ := (bo1 K2).c2
  obtain ⟨c2_1_0, c2_1_1⟩ := (bo2 K2).c2
  obtain ⟨c2_2_0, c2_2_1⟩ := (bo3 K2).c2
  obtain ⟨c2_3_0, c2_3_1⟩ := (bo4 K2).c2
  go_wp2_with fail
  refine (R2.out _).mono ?_
  rintro e W3 ⟨rfl, hb⟩
  have K3 := bsb K2 hb
  clear c2_0_0 c2_0_1 c2_1_0 c2_1_1 c2_2_0 c2_2_1 c2_3_0 c2_3_1
  clear hb K2
  obtain ⟨c3_0_0, c3_0_1⟩ := (bo1 K3).c2
  obtain ⟨c3_1_0, c3_1_1⟩ := (bo2 K3).c2
  obtain ⟨c3_2_0, c3_2_1⟩ := (bo3 K3).c2
  obtain ⟨c3_3_0, c3_3_1⟩ := (bo4 K3).c2
  go_wp2_with fail
  refine (R3.out _).mono ?_
  rintro e W4 ⟨rfl, hb⟩
  have K4 := bsb K3 hb
  clear c3_0_0 c3_0_1 c3_1_0 c3_1_1 c3_2_0 c3_2_1 c3_3_0 c3_3_1
  clear hb K3
  obtain ⟨c4_0_0, c4_0_1⟩ := (bo1 K4).c2
  obtain ⟨c4_1_0, c4_1_1⟩ := (bo2 K4).c2
  obtain ⟨c4_2_0, c4_2_1⟩ := (bo3 K4).c2
  obtain ⟨c4_3_0, c4_3_1⟩ := (bo4 K4).c2
  go_wp2_with fail
  refine (D1.out _).mono ?_
  rintro e W5 ⟨rfl, hb⟩
  have K5 := bsb K4 hb
  clear c4_0_0 c4_0_1 c4_1_0 c4_1_1 c4_2_0 c4_2_1 c4_3_0 c4_3_1
  clear hb K4
  obtain ⟨c5_0_0, c5_0_1⟩ := (bo1 K5).c2
  obtain ⟨c5_1_0, c5_1_1⟩ := (bo2 K5).c2
  obtain ⟨c5_2_0, c5_2_1⟩ := (bo3 K5).c2
  obtain ⟨c5_3_0, c5_3_1⟩ := (bo4 K5).c2
  clear c5_0_0 c5_0_1 c5_1_0 c5_1_1 c5_2_0 c5_2_1 c5_3_0 c5_3_1
  have r5_1_0 : W5.cell? ⟨w.heap.size, 0, none⟩ = some (.int .i64 i0) := (K5.out.at (w.heap.size) [.int .i64 i0, .int .i64 a] (by simp)).c 0 rfl
  have sr5_1_0 : W5.frozen? ⟨w.heap.size, 0, none⟩ = false := (K5.out.at (w.heap.size) [.int .i64 i0, .int .i64 a] (by simp)).f 0 rfl
  have r5_1_1 : W5.cell? ⟨w.heap.size, 1, none⟩ = some (.int .i64 a) := (K5.out.at (w.heap.size) [.int .i64 i0, .int .i64 a] (by simp)).c 1 rfl
  have sr5_1_1 : W5.frozen? ⟨w.heap.size, 1, none⟩ = false := (K5.out.at (w.heap.size) [.int .i64 i0, .int .i64 a] (by simp)).f 1 rfl
  have r5_2_0 : W5.cell? ⟨w.heap.size + 1, 0, none⟩ = some (.int .i64 i1) := (K5.out.at (w.heap.size + 1) [.int .i64 i1, .int .i64 b] (by simp)).c 0 rfl
  have sr5_2_0 : W5.frozen? ⟨w.heap.size + 1, 0, none⟩ = false := (K5.out.at (w.heap.size + 1) [.int .i64 i1, .int .i64 b] (by simp)).f 0 rfl
  have r5_2_1 : W5.cell? ⟨w.heap.size + 1, 1, none⟩ = some (.int .i64 b) := (K5.out.at (w.heap.size + 1) [.int .i64 i1, .int .i64 b] (by simp)).c 1 rfl
  have sr5_2_1 : W5.frozen? ⟨w.heap.size + 1, 1, none⟩ = false := (K5.out.at (w.heap.size + 1) [.int .i64 i1, .int .i64 b] (by simp)).f 1 rfl
  have My5 := (K5.out.perm (l' := [(w.heap.size, [.int .i64 i0, .int .i64 a]), (w.heap.size + 1, [.int .i64 i1, .int .i64 b]), (w.heap.size + 3, [.int .i64 i3, .int .i64 d]), (w.heap.size + 2, [.int .i64 i2, .int .i64 c])]) (by intro x hx; simp only [List.mem_cons, List.not_mem_nil, or_false] at hx ⊢; rcases hx with h | h | h | h <;> simp [h])).set [.int .i64 i1, .int .i64 b] rfl (by intro x hx; simp only [List.mem_cons, List.not_mem_nil, or_false] at hx; rcases hx with rfl | rfl | rfl <;> simp only [] <;> omega)
  have Mz5 : Hid (BS w [(w.heap.size + 1, [.int .i64 i0, .int .i64 a]), (w.heap.size, [.int .i64 i1, .int .i64 b]), (w.heap.size + 3, [.int .i64 i3, .int .i64 d]), (w.heap.size + 2, [.int .i64 i2, .int .i64 c])] ((W5.setCells (w.heap.size) 0 [.int .i64 i1, .int .i64 b]).setCells (w.heap.size + 1) 0 [.int .i64 i0, .int .i64 a])) := (My5.perm (l' := [(w.heap.size + 1, [.int .i64 i1, .int .i64 b]), (w.heap.size, [.int .i64 i1, .int .i64 b]), (w.heap.size + 3, [.int .i64 i3, .int .i64 d]), (w.heap.size + 2, [.int .i64 i2, .int .i64 c])]) (by intro x hx; simp only [List.mem_cons, List.not_mem_nil, or_false] at hx ⊢; rcases hx with h | h | h | h <;> simp [h])).set [.int .i64 i0, .int .i64 a] rfl (by intro x hx; simp only [List.mem_cons, List.not_mem_nil, or_false] at hx; rcases hx with rfl | rfl | rfl <;> simp only [] <;> omega)
  clear My5
  simp only [World.setCells, Nat.zero_add] at Mz5
  go_upto_region 5 with fail
  refine bs_to Mz5 ?_
  clear r5_1_0 sr5_1_0 r5_1_1 sr5_1_1 r5_2_0 sr5_2_0 r5_2_1 sr5_2_1
  intro W6 K6
  clear Mz5 K5
  obtain ⟨c6_0_0, c6_0_1⟩ := (bo1 K6).c2
  obtain ⟨c6_1_0, c6_1_1⟩ := (bo2 K6).c2
  obtain ⟨c6_2_0, c6_2_1⟩ := (bo3 K6).c2
  obtain ⟨c6_3_0, c6_3_1⟩ := (bo4 K6).c2
  go_wp2_with fail
  refine (D2.out _).mono ?_
  rintro e W7 ⟨rfl, hb⟩
  have K7 := bsb K6 hb
  clear c6_0_0 c6_0_1 c6_1_0 c6_1_1 c6_2_0 c6_2_1 c6_3_0 c6_3_1
  clear hb K6
  obtain ⟨c7_0_0, c7_0_1⟩ := (bo1 K7).c2
  obtain ⟨c7_1_0, c7_1_1⟩ := (bo2 K7).c2
  obtain ⟨c7_2_0, c7_2_1⟩ := (bo3 K7).c2
  obtain ⟨c7_3_0, c7_3_1⟩ := (bo4 K7).c2
  clear c7_0_0 c7_0_1 c7_1_0 c7_1_1 c7_2_0 c7_2_1 c7_3_0 c7_3_1
  have r7_1_0 : W7.cell? ⟨w.heap.size + 2, 0, none⟩ = some (.int .i64 i2) := (K7.out.at (w.heap.size + 2) [.int .i64 i2, .int .i64 c] (by simp)).c 0 rfl
  have sr7_1_0 : W7.frozen? ⟨w.heap.size + 2, 0, none⟩ = false := (K7.out.at (w.heap.size + 2) [.int .i64 i2, .int .i64 c] (by simp)).f 0 rfl
  have r7_1_1 : W7.cell? ⟨w.heap.size + 2, 1, none⟩ = some (.int .i64 c) := (K7.out.at (w.heap.size + 2) [.int .i64 i2, .int .i64 c] (by simp)).c 1 rfl
  have sr7_1_1 : W7.frozen? ⟨w.heap.size + 2, 1, none⟩ = false := (K7.out.at (w.heap.size + 2) [.int .i64 i2, .int .i64 c] (by simp)).f 1 rfl
  have r7_2_0 : W7.cell? ⟨w.heap.size + 3, 0, none⟩ = some (.int .i64 i3) := (K7.out.at (w.heap.size + 3) [.int .i64 i3, .int .i64 d] (by simp)).c 0 rfl
  have sr7_2_0 : W7.frozen? ⟨w.heap.size + 3, 0, none⟩ = false := (K7.out.at (w.heap.size + 3) [.int .i64 i3, .int .i64 d] (by simp)).f 0 rfl
  have r7_2_1 : W7.cell? ⟨w.heap.size + 3, 1, none⟩ = some (.int .i64 d) := (K7.out.at (w.heap.size + 3) [.int .i64 i3, .int .i64 d] (by simp)).c 1 rfl
  have sr7_2_1 : W7.frozen? ⟨w.heap.size + 3, 1, none⟩ = false := (K7.out.at (w.heap.size + 3) [.int .i64 i3, .int .i64 d] (by simp)).f 1 rfl
  have My7 := (K7.out.perm (l' := [(w.heap.size + 2, [.int .i64 i2, .int .i64 c]), (w.heap.size + 3, [.int .i64 i3, .int .i64 d]), (w.heap.size + 1, [.int .i64 i0, .int .i64 a]), (w.heap.size, [.int .i64 i1, .int .i64 b])]) (by intro x hx; simp only [List.mem_cons, List.not_mem_nil, or_false] at hx ⊢; rcases hx with h | h | h | h <;> simp [h])).set [.int .i64 i3, .int .i64 d] rfl (by intro x hx; simp only [List.mem_cons, List.not_mem_nil, or_false] at hx; rcases hx with rfl | rfl | rfl <;> simp only [] <;> omega)
  have Mz7 : Hid (BS w [(w.heap.size + 3, [.int .i64 i2, .int .i64 c]), (w.heap.size + 2, [.int .i64 i3, .int .i64 d]), (w.heap.size + 1, [.int .i64 i0, .int .i64 a]), (w.heap.size, [.int .i64 i1, .int .i64 b])] ((W7.setCells (w.heap.size + 2) 0 [.int .i64 i3, .int .i64 d]).setCells (w.heap.size + 3) 0 [.int .i64 i2, .int .i64 c])) := (My7.perm (l' := [(w.heap.size + 3, [.int .i64 i3, .int .i64 d]), (w.heap.size + 2, [.int .i64 i3, .int .i64 d]), (w.heap.size + 1, [.int .i64 i0, .int .i64 a]), (w.heap.size, [.int .i64 i1, .int .i64 b])]) (by intro x hx; simp only [List.mem_cons, List.not_mem_nil, or_false] at hx ⊢; rcases hx with h | h | h | h <;> simp [h])).set [.int .i64 i2, .int .i64 c] rfl (by intro x hx; simp only [List.mem_cons, List.not_mem_nil, or_false] at hx; rcases hx with rfl | rfl | rfl <;> simp only [] <;> omega)
  clear My7
  simp only [World.setCells, Nat.zero_add] at Mz7
  go_upto_region 7 with fail
  refine bs_to Mz7 ?_
  clear r7_1_0 sr7_1_0 r7_1_1 sr7_1_1 r7_2_0 sr7_2_0 r7_2_1 sr7_2_1
  intro W8 K8
  clear Mz7 K7
  obtain ⟨c8_0_0, c8_0_1⟩ := (bo1 K8).c2
  obtain ⟨c8_1_0, c8_1_1⟩ := (bo2 K8).c2
  obtain ⟨c8_2_0, c8_2_1⟩ := (bo3 K8).c2
  obtain ⟨c8_3_0, c8_3_1⟩ := (bo4 K8).c2
  go_wp2_with fail
  refine (C1.out _).mono ?_
  rintro e W9 ⟨rfl, hb⟩
  have K9 := bsb K8 hb
  clear c8_0_0 c8_0_1 c8_1_0 c8_1_1 c8_2_0 c8_2_1 c8_3_0 c8_3_1
  clear hb K8
  obtain ⟨c9_0_0, c9_0_1⟩ := (bo1 K9).c2
  obtain ⟨c9_1_0, c9_1_1⟩ := (bo2 K9).c2
  obtain ⟨c9_2_0, c9_2_1⟩ := (bo3 K9).c2
  obtain ⟨c9_3_0, c9_3_1⟩ := (bo4 K9).c2
  go_wp2_with fail
  refine (C2.out _).mono ?_
  rintro e W10 ⟨rfl, hb⟩
  have K10 := bsb K9 hb
  clear c9_0_0 c9_0_1 c9_1_0 c9_1_1 c9_2_0 c9_2_1 c9_3_0 c9_3_1
  clear hb K9
  obtain ⟨c10_0_0, c10_0_1⟩ := (bo1 K10).c2
  obtain ⟨c10_1_0, c10_1_1⟩ := (bo2 K10).c2
  obtain ⟨c10_2_0, c10_2_1⟩ := (bo3 K10).c2
  obtain ⟨c10_3_0, c10_3_1⟩ := (bo4 K10).c2
  go_wp2
  go_ret2
  exact ⟨rfl, K10.out.1⟩

set_option maxRecDepth 100000 in
set_option maxHeartbeats 4000000 in
theorem rov_11p (i0 a i1 b i2 c i3 d e f v u : Int) (h1 : 0 < e) (h2 : 0 < f) (ho : 0 < v)
    (R0 : Hid (∀ w : World, Calls Tryz.prog 13 #[.agg #[.int .i64 i0, .int .i64 a]] w fun r' w' => r' = .returned (.bool true) ∧ Below w.heap.size w w'))
    (R1 : Hid (∀ w : World, Calls Tryz.prog 13 #[.agg #[.int .i64 i1, .int .i64 b]] w fun r' w' => r' = .returned (.bool true) ∧ Below w.heap.size w w'))
    (R2 : Hid (∀ w : World, Calls Tryz.prog 13 #[.agg #[.int .i64 i2, .int .i64 c]] w fun r' w' => r' = .returned (.bool true) ∧ Below w.heap.size w w'))
    (R3 : Hid (∀ w : World, Calls Tryz.prog 13 #[.agg #[.int .i64 i3, .int .i64 d]] w fun r' w' => r' = .returned (.bool true) ∧ Below w.heap.size w w'))
    (D1 : Hid (∀ w : World, Calls Tryz.prog 11 #[.agg #[.int .i64 i0, .int .i64 a], .agg #[.int .i64 i1, .int .i64 b]] w fun r' w' => r' = .returned (.int .i64 e) ∧ Below w.heap.size w w'))
    (D2 : Hid (∀ w : World, Calls Tryz.prog 11 #[.agg #[.int .i64 i2, .int .i64 c], .agg #[.int .i64 i3, .int .i64 d]] w fun r' w' => r' = .returned (.int .i64 f) ∧ Below w.heap.size w w'))
    (C1 : Hid (∀ w : World, Calls Tryz.prog 11 #[.agg #[.int .i64 i1, .int .i64 b], .agg #[.int .i64 i3, .int .i64 d]] w fun r' w' => r' = .returned (.int .i64 v) ∧ Below w.heap.size w w'))
    (C2 : Hid (∀ w : World, Calls Tryz.prog 11 #[.agg #[.int .i64 i1, .int .i64 b], .agg #[.int .i64 i2, .int .i64 c]] w fun r' w' => r' = .returned (.int .i64 u) ∧ Below w.heap.size w w'))
    (w : World) :
    Calls Tryz.prog 8 #[.agg #[.int .i64 i0, .int .i64 a], .agg #[.int .i64 i1, .int .i64 b], .agg #[.int .i64 i2, .int .i64 c], .agg #[.int .i64 i3, .int .i64 d]] w fun r' w' => r' = .returned (.tuple #[.bool (decide (u < 0)), .int .i64 0]) ∧ Below w.heap.size w w' := by
  have ho1 : (v == 0) = false := by simp; omega
  have ho2 : ¬ v < 0 := by omega
  have K0 : Hid (BS w [(w.heap.size + 3, [.int .i64 i3, .int .i64 d]), (w.heap.size + 2, [.int .i64 i2, .int .i64 c]), (w.heap.size + 1, [.int .i64 i1, .int .i64 b]), (w.heap.size, [.int .i64 i0, .int .i64 a])] ((((w.alloc (.cells #[.int .i64 i0, .int .i64 a] 23)).alloc (.cells #[.int .i64 i1, .int .i64 b] 23)).alloc (.cells #[.int .i64 i2, .int .i64 c] 23)).alloc (.cells #[.int .i64 i3, .int .i64 d] 23))) := (((((BS.start w).new [.int .i64 i0, .int .i64 a] 23 rfl).new [.int .i64 i1, .int .i64 b] 23 (by simp)).new [.int .i64 i2, .int .i64 c] 23 (by simp)).new [.int .i64 i3, .int .i64 d] 23 (by simp))
  go_enter Tryz.func8, Tryz.ntmps8
  go_wp2_with fail
  refine (R0.out _).mono ?_
  rintro e W1 ⟨rfl, hb⟩
  have K1 := bsb K0 hb
  clear hb K0
  obtain ⟨c1_0_0, c1_0_1⟩ := (bo1 K1).c2
  obtain ⟨c1_1_0, c1_1_1⟩ := (bo2 K1).c2
  obtain ⟨c1_2_0, c1_2_1⟩ := (bo3 K1).c2
  obtain ⟨c1_3_0, c1_3_1⟩ := (bo4 K1).c2
  go_wp2_with fail
  refine (R1.out _).mono ?_
  rintro e W2 ⟨rfl, hb⟩
  have K2 := bsb K1 hb
  clear c1_0_0 c1_0_1 c1_1_0 c1_1_1 c1_2_0 c1_2_1 c1_3_0 c1_3_1
  clear hb K1
  obtain ⟨c2_0_0, c2_0_1⟩ := (bo1 K2).c2
  obtain ⟨c2_1_0, c2_1_1⟩ := (bo2 K2).c2
  obtain ⟨c2_2_0, c2_2_1⟩ := (bo3 K2).c2
  obtain ⟨c2_3_0, c2_3_1⟩ := (bo4 K2).c2
  go_wp2_with fail
  refine (R2.out _).mono ?_
  rintro e W3 ⟨rfl, hb⟩
  have K3 := bsb K2 hb
  clear c2_0_0 c2_0_1 c2_1_0 c2_1_1 c2_2_0 c2_2_1 c2_3_0 c2_3_1
  clear hb K2
  obtain ⟨c3_0_0, c3_0_1⟩ := (bo1 K3).c2
  obtain ⟨c3_1_0, c3_1_1⟩ := (bo2 K3).c2
  obtain ⟨c3_2_0, c3_2_1⟩ := (bo3 K3).c2
  obtain ⟨c3_3_0, c3_3_1⟩ := (bo4 K3).c2
  go_wp2_with fail
  refine (R3.out _).mono ?_
  rintro e W4 ⟨rfl, hb⟩
  have K4 := bsb K3 hb
  clear c3_0_0 c3_0_1 c3_1_0 c3_1_1 c3_2_0 c3_2_1 c3_3_0 c3_3_1
  clear hb K3
  obtain ⟨c4_0_0, c4_0_1⟩ := (bo1 K4).c2
  obtain ⟨c4_1_0, c4_1_1⟩ := (bo2 K4).c2
  obtain ⟨c4_2_0, c4_2_1⟩ := (bo3 K4).c2
  obtain ⟨c4_3_0, c4_3_1⟩ := (bo4 K4).c2
  go_wp2_with fail
  refine (D1.out _).mono ?_
  rintro e W5 ⟨rfl, hb⟩
  have K5 := bsb K4 hb
  clear c4_0_0 c4_0_1 c4_1_0 c4_1_1 c4_2_0 c4_2_1 c4_3_0 c4_3_1
  clear hb K4
  obtain ⟨c5_0_0, c5_0_1⟩ := (bo1 K5).c2
  obtain ⟨c5_1_0, c5_1_1⟩ := (bo2 K5).c2
  obtain ⟨c5_2_0, c5_2_1⟩ := (bo3 K5).c2
  obtain ⟨c5_3_0, c5_3_1⟩ := (bo4 K5).c2
  clear c5_0_0 c5_0_1 c5_1_0 c5_1_1 c5_2_0 c5_2_1 c5_3_0 c5_3_1
  have r5_1_0 : W5.cell? ⟨w.heap.size, 0, none⟩ = some (.int .i64 i0) := (K5.out.at (w.heap.size) [.int .i64 i0, .int .i64 a] (by simp)).c 0 rfl
  have sr5_1_0 : W5.frozen? ⟨w.heap.size, 0, none⟩ = false := (K5.out.at (w.heap.size) [.int .i64 i0, .int .i64 a] (by simp)).f 0 rfl
  have r5_1_1 : W5.cell? ⟨w.heap.size, 1, none⟩ = some (.int .i64 a) := (K5.out.at (w.heap.size) [.int .i64 i0, .int .i64 a] (by simp)).c 1 rfl
  have sr5_1_1 : W5.frozen? ⟨w.heap.size, 1, none⟩ = false := (K5.out.at (w.heap.size) [.int .i64 i0, .int .i64 a] (by simp)).f 1 rfl
  have r5_2_0 : W5.cell? ⟨w.heap.size + 1, 0, none⟩ = some (.int .i64 i1) := (K5.out.at (w.heap.size + 1) [.int .i64 i1, .int .i64 b] (by simp)).c 0 rfl
  have sr5_2_0 : W5.frozen? ⟨w.heap.size + 1, 0, none⟩ = false := (K5.out.at (w.heap.size + 1) [.int .i64 i1, .int .i64 b] (by simp)).f 0 rfl
  have r5_2_1 : W5.cell? ⟨w.heap.size + 1, 1, none⟩ = some (.int .i64 b) := (K5.out.at (w.heap.size + 1) [.int .i64 i1, .int .i64 b] (by simp)).c 1 rfl
  have sr5_2_1 : W5.frozen? ⟨w.heap.size + 1, 1, none⟩ = false := (K5.out.at (w.heap.size + 1) [.int .i64 i1, .int .i64 b] (by simp)).f 1 rfl
  have My5 := (K5.out.perm (l' := [(w.heap.size, [.int .i64 i0, .int .i64 a]), (w.heap.size + 1, [.int .i64 i1, .int .i64 b]), (w.heap.size + 3, [.int .i64 i3, .int .i64 d]), (w.heap.size + 2, [.int .i64 i2, .int .i64 c])]) (by intro x hx; simp only [List.mem_cons, List.not_mem_nil, or_false] at hx ⊢; rcases hx with h | h | h | h <;> simp [h])).set [.int .i64 i1, .int .i64 b] rfl (by intro x hx; simp only [List.mem_cons, List.not_mem_nil, or_false] at hx; rcases hx with rfl | rfl | rfl <;> simp only [] <;> omega)
  have Mz5 : Hid (BS w [(w.heap.size + 1, [.int .i64 i0, .int .i64 a]), (w.heap.size, [.int .i64 i1, .int .i64 b]), (w.heap.size + 3, [.int .i64 i3, .int .i64 d]), (w.heap.size + 2, [.int .i64 i2, .int .i64 c])] ((W5.setCells (w.heap.size) 0 [.int .i64 i1, .int .i64 b]).setCells (w.heap.size + 1) 0 [.int .i64 i0, .int .i64 a])) := (My5.perm (l' := [(w.heap.size + 1, [.int .i64 i1, .int .i64 b]), (w.heap.size, [.int .i64 i1, .int .i64 b]), (w.heap.size + 3, [.int .i64 i3, .int .i64 d]), (w.heap.size + 2, [.int .i64 i2, .int .i64 c])]) (by intro x hx; simp only [List.mem_cons, List.not_mem_nil, or_false] at hx ⊢; rcases hx with h | h | h | h <;> simp [h])).set [.int .i64 i0, .int .i64 a] rfl (by intro x hx; simp only [List.mem_cons, List.not_mem_nil, or_false] at hx; rcases hx with rfl | rfl | rfl <;> simp only [] <;> omega)
  clear My5
  simp only [World.setCells, Nat.zero_add] at Mz5
  go_upto_region 5 with fail
  refine bs_to Mz5 ?_
  clear r5_1_0 sr5_1_0 r5_1_1 sr5_1_1 r5_2_0 sr5_2_0 r5_2_1 sr5_2_1
  intro W6 K6
  clear Mz5 K5
  obtain ⟨c6_0_0, c6_0_1⟩ := (bo1 K6).c2
  obtain ⟨c6_1_0, c6_1_1⟩ := (bo2 K6).c2
  obtain ⟨c6_2_0, c6_2_1⟩ := (bo3 K6).c2
  obtain ⟨c6_3_0, c6_3_1⟩ := (bo4 K6).c2
  go_wp2_with fail
  refine (D2.out _).mono ?_
  rintro e W7 ⟨rfl, hb⟩
  have K7 := bsb K6 hb
  clear c6_0_0 c6_0_1 c6_1_0 c6_1_1 c6_2_0 c6_2_1 c6_3_0 c6_3_1
  clear hb K6
  obtain ⟨c7_0_0, c7_0_1⟩ := (bo1 K7).c2
  obtain ⟨c7_1_0, c7_1_1⟩ := (bo2 K7).c2
  obtain ⟨c7_2_0, c7_2_1⟩ := (bo3 K7).c2
  obtain ⟨c7_3_0, c7_3_1⟩ := (bo4 K7).c2
  clear c7_0_0 c7_0_1 c7_1_0 c7_1_1 c7_2_0 c7_2_1 c7_3_0 c7_3_1
  have r7_1_0 : W7.cell? ⟨w.heap.size + 2, 0, none⟩ = some (.int .i64 i2) := (K7.out.at (w.heap.size + 2) [.int .i64 i2, .int .i64 c] (by simp)).c 0 rfl
  have sr7_1_0 : W7.frozen? ⟨w.heap.size + 2, 0, none⟩ = false := (K7.out.at (w.heap.size + 2) [.int .i64 i2, .int .i64 c] (by simp)).f 0 rfl
  have r7_1_1 : W7.cell? ⟨w.heap.size + 2, 1, none⟩ = some (.int .i64 c) := (K7.out.at (w.heap.size + 2) [.int .i64 i2, .int .i64 c] (by simp)).c 1 rfl
  have sr7_1_1 : W7.frozen? ⟨w.heap.size + 2, 1, none⟩ = false := (K7.out.at (w.heap.size + 2) [.int .i64 i2, .int .i64 c] (by simp)).f 1 rfl
  have r7_2_0 : W7.cell? ⟨w.heap.size + 3, 0, none⟩ = some (.int .i64 i3) := (K7.out.at (w.heap.size + 3) [.int .i64 i3, .int .i64 d] (by simp)).c 0 rfl
  have sr7_2_0 : W7.frozen? ⟨w.heap.size + 3, 0, none⟩ = false := (K7.out.at (w.heap.size + 3) [.int .i64 i3, .int .i64 d] (by simp)).f 0 rfl
  have r7_2_1 : W7.cell? ⟨w.heap.size + 3, 1, none⟩ = some (.int .i64 d) := (K7.out.at (w.heap.size + 3) [.int .i64 i3, .int .i64 d] (by simp)).c 1 rfl
  have sr7_2_1 : W7.frozen? ⟨w.heap.size + 3, 1, none⟩ = false := (K7.out.at (w.heap.size + 3) [.int .i64 i3, .int .i64 d] (by simp)).f 1 rfl
  have My7 := (K7.out.perm (l' := [(w.heap.size + 2, [.int .i64 i2, .int .i64 c]), (w.heap.size + 3, [.int .i64 i3, .int .i64 d]), (w.heap.size + 1, [.int .i64 i0, .int .i64 a]), (w.heap.size, [.int .i64 i1, .int .i64 b])]) (by intro x hx; simp only [List.mem_cons, List.not_mem_nil, or_false] at hx ⊢; rcases hx with h | h | h | h <;> simp [h])).set [.int .i64 i3, .int .i64 d] rfl (by intro x hx; simp only [List.mem_cons, List.not_mem_nil, or_false] at hx; rcases hx with rfl | rfl | rfl <;> simp only [] <;> omega)
  have Mz7 : Hid (BS w [(w.heap.size + 3, [.int .i64 i2, .int .i64 c]), (w.heap.size + 2, [.int .i64 i3, .int .i64 d]), (w.heap.size + 1, [.int .i64 i0, .int .i64 a]), (w.heap.size, [.int .i64 i1, .int .i64 b])] ((W7.setCells (w.heap.size + 2) 0 [.int .i64 i3, .int .i64 d]).setCells (w.heap.size + 3) 0 [.int .i64 i2, .int .i64 c])) := (My7.perm (l' := [(w.heap.size + 3, [.int .i64 i3, .int .i64 d]), (w.heap.size + 2, [.int .i64 i3, .int .i64 d]), (w.heap.size + 1, [.int .i64 i0, .int .i64 a]), (w.heap.size, [.int .i64 i1, .int .i64 b])]) (by intro x hx; simp only [List.mem_cons, List.not_mem_nil, or_false] at hx ⊢; rcases hx with h | h | h | h <;> simp [h])).set [.int .i64 i2, .int .i64 c] rfl (by intro x hx; simp only [List.mem_cons, List.not_mem_nil, or_false] at hx; rcases hx with rfl | rfl | rfl <;> simp only [] <;> omega)
  clear My7
  simp only [World.setCells, Nat.zero_add] at Mz7
  go_upto_region 7 with fail
  refine bs_to Mz7 ?_
  clear r7_1_0 sr7_1_0 r7_1_1 sr7_1_1 r7_2_0 sr7_2_0 r7_2_1 sr7_2_1
  intro W8 K8
  clear Mz7 K7
  obtain ⟨c8_0_0, c8_0_1⟩ := (bo1 K8).c2
  obtain ⟨c8_1_0, c8_1_1⟩ := (bo2 K8).c2
  obtain ⟨c8_2_0, c8_2_1⟩ := (bo3 K8).c2
  obtain ⟨c8_3_0, c8_3_1⟩ := (bo4 K8).c2
  go_wp2_with fail
  refine (C1.out _).mono ?_
  rintro e W9 ⟨rfl, hb⟩
  have K9 := bsb K8 hb
  clear c8_0_0 c8_0_1 c8_1_0 c8_1_1 c8_2_0 c8_2_1 c8_3_0 c8_3_1
  clear hb K8
  obtain ⟨c9_0_0, c9_0_1⟩ := (bo1 K9).c2
  obtain ⟨c9_1_0, c9_1_1⟩ := (bo2 K9).c2
  obtain ⟨c9_2_0, c9_2_1⟩ := (bo3 K9).c2
  obtain ⟨c9_3_0, c9_3_1⟩ := (bo4 K9).c2
  go_wp2_with fail
  refine (C2.out _).mono ?_
  rintro e W10 ⟨rfl, hb⟩
  have K10 := bsb K9 hb
  clear c9_0_0 c9_0_1 c9_1_0 c9_1_1 c9_2_0 c9_2_1 c9_3_0 c9_3_1
  clear hb K9
  obtain ⟨c10_0_0, c10_0_1⟩ := (bo1 K10).c2
  obtain ⟨c10_1_0, c10_1_1⟩ := (bo2 K10).c2
  obtain ⟨c10_2_0, c10_2_1⟩ := (bo3 K10).c2
  obtain ⟨c10_3_0, c10_3_1⟩ := (bo4 K10).c2
  go_wp2
  go_ret2
  exact ⟨rfl, K10.out.1⟩

set_option maxRecDepth 100000 in
set_option maxHeartbeats 4000000 in
theorem rov_11z (i0 a i1 b i2 c i3 d e f v u : Int) (h1 : 0 < e) (h2 : 0 < f) (ho : v = 0)
    (R0 : Hid (∀ w : World, Calls Tryz.prog 13 #[.agg #[.int .i64 i0, .int .i64 a]] w fun r' w' => r' = .returned (.bool true) ∧ Below w.heap.size w w'))
    (R1 : Hid (∀ w : World, Calls Tryz.prog 13 #[.agg #[.int .i64 i1, .int .i64 b]] w fun r' w' => r' = .returned (.bool true) ∧ Below w.heap.size w w'))
    (R2 : Hid (∀ w : World, Calls Tryz.prog 13 #[.agg #[.int .i64 i2, .int .i64 c]] w fun r' w' => r' = .returned (.bool true) ∧ Below w.heap.size w w'))
    (R3 : Hid (∀ w : World, Calls Tryz.prog 13 #[.agg #[.int .i64 i3, .int .i64 d]] w fun r' w' => r' = .returned (.bool true) ∧ Below w.heap.size w w'))
    (D1 : Hid (∀ w : World, Calls Tryz.prog 11 #[.agg #[.int .i64 i0, .int .i64 a], .agg #[.int .i64 i1, .int .i64 b]] w fun r' w' => r' = .returned (.int .i64 e) ∧ Below w.heap.size w w'))
    (D2 : Hid (∀ w : World, Calls Tryz.prog 11 #[.agg #[.int .i64 i2, .int .i64 c], .agg #[.int .i64 i3, .int .i64 d]] w fun r' w' => r' = .returned (.int .i64 f) ∧ Below w.heap.size w w'))
    (C1 : Hid (∀ w : World, Calls Tryz.prog 11 #[.agg #[.int .i64 i1, .int .i64 b], .agg #[.int .i64 i3, .int .i64 d]] w fun r' w' => r' = .returned (.int .i64 v) ∧ Below w.heap.size w w'))
    (w : World) :
    Calls Tryz.prog 8 #[.agg #[.int .i64 i0, .int .i64 a], .agg #[.int .i64 i1, .int .i64 b], .agg #[.int .i64 i2, .int .i64 c], .agg #[.int .i64 i3, .int .i64 d]] w fun r' w' => r' = .returned (.tuple #[.bool true, .int .i64 0]) ∧ Below w.heap.size w w' := by
  subst ho
  have K0 : Hid (BS w [(w.heap.size + 3, [.int .i64 i3, .int .i64 d]), (w.heap.size + 2, [.int .i64 i2, .int .i64 c]), (w.heap.size + 1, [.int .i64 i1, .int .i64 b]), (w.heap.size, [.int .i64 i0, .int .i64 a])] ((((w.alloc (.cells #[.int .i64 i0, .int .i64 a] 23)).alloc (.cells #[.int .i64 i1, .int .i64 b] 23)).alloc (.cells #[.int .i64 i2, .int .i64 c] 23)).alloc (.cells #[.int .i64 i3, .int .i64 d] 23))) := (((((BS.start w).new [.int .i64 i0, .int .i64 a] 23 rfl).new [.int .i64 i1, .int .i64 b] 23 (by simp)).new [.int .i64 i2, .int .i64 c] 23 (by simp)).new [.int .i64 i3, .int .i64 d] 23 (by simp))
  go_enter Tryz.func8, Tryz.ntmps8
  go_wp2_with fail
  refine (R0.out _).mono ?_
  rintro e W1 ⟨rfl, hb⟩
  have K1 := bsb K0 hb
  clear hb K0
  obtain ⟨c1_0_0, c1_0_1⟩ := (bo1 K1).c2
  obtain ⟨c1_1_0, c1_1_1⟩ := (bo2 K1).c2
  obtain ⟨c1_2_0, c1_2_1⟩ := (bo3 K1).c2
  obtain ⟨c1_3_0, c1_3_1⟩ := (bo4 K1).c2
  go_wp2_with fail
  refine (R1.out _).mono ?_
  rintro e W2 ⟨rfl, hb⟩
  have K2 := bsb K1 hb
  clear c1_0_0 c1_0_1 c1_1_0 c1_1_1 c1_2_0 c1_2_1 c1_3_0 c1_3_1
  clear hb K1
  obtain ⟨c2_0_0, c2_0_1⟩ := (bo1 K2).c2
  obtain ⟨c2_1_0, c2_1_1⟩ := (bo2 K2).c2
  obtain ⟨c2_2_0, c2_2_1⟩ := (bo3 K2).c2
  obtain ⟨c2_3_0, c2_3_1⟩ := (bo4 K2).c2
  go_wp2_with fail
  refine (R2.out _).mono ?_
  rintro e W3 ⟨rfl, hb⟩
  have K3 := bsb K2 hb
  clear c2_0_0 c2_0_1 c2_1_0 c2_1_1 c2_2_0 c2_2_1 c2_3_0 c2_3_1
  clear hb K2
  obtain ⟨c3_0_0, c3_0_1⟩ := (bo1 K3).c2
  obtain ⟨c3_1_0, c3_1_1⟩ := (bo2 K3).c2
  obtain ⟨c3_2_0, c3_2_1⟩ := (bo3 K3).c2
  obtain ⟨c3_3_0, c3_3_1⟩ := (bo4 K3).c2
  go_wp2_with fail
  refine (R3.out _).mono ?_
  rintro e W4 ⟨rfl, hb⟩
  have K4 := bsb K3 hb
  clear c3_0_0 c3_0_1 c3_1_0 c3_1_1 c3_2_0 c3_2_1 c3_3_0 c3_3_1
  clear hb K3
  obtain ⟨c4_0_0, c4_0_1⟩ := (bo1 K4).c2
  obtain ⟨c4_1_0, c4_1_1⟩ := (bo2 K4).c2
  obtain ⟨c4_2_0, c4_2_1⟩ := (bo3 K4).c2
  obtain ⟨c4_3_0, c4_3_1⟩ := (bo4 K4).c2
  go_wp2_with fail
  refine (D1.out _).mono ?_
  rintro e W5 ⟨rfl, hb⟩
  have K5 := bsb K4 hb
  clear c4_0_0 c4_0_1 c4_1_0 c4_1_1 c4_2_0 c4_2_1 c4_3_0 c4_3_1
  clear hb K4
  obtain ⟨c5_0_0, c5_0_1⟩ := (bo1 K5).c2
  obtain ⟨c5_1_0, c5_1_1⟩ := (bo2 K5).c2
  obtain ⟨c5_2_0, c5_2_1⟩ := (bo3 K5).c2
  obtain ⟨c5_3_0, c5_3_1⟩ := (bo4 K5).c2
  clear c5_0_0 c5_0_1 c5_1_0 c5_1_1 c5_2_0 c5_2_1 c5_3_0 c5_3_1
  have r5_1_0 : W5.cell? ⟨w.heap.size, 0, none⟩ = some (.int .i64 i0) := (K5.out.at (w.heap.size) [.int .i64 i0, .int .i64 a] (by simp)).c 0 rfl
  have sr5_1_0 : W5.frozen? ⟨w.heap.size, 0, none⟩ = false := (K5.out.at (w.heap.size) [.int .i64 i0, .int .i64 a] (by simp)).f 0 rfl
  have r5_1_1 : W5.cell? ⟨w.heap.size, 1, none⟩ = some (.int .i64 a) := (K5.out.at (w.heap.size) [.int .i64 i0, .int .i64 a] (by simp)).c 1 rfl
  have sr5_1_1 : W5.frozen? ⟨w.heap.size, 1, none⟩ = false := (K5.out.at (w.heap.size) [.int .i64 i0, .int .i64 a] (by simp)).f 1 rfl
  have r5_2_0 : W5.cell? ⟨w.heap.size + 1, 0, none⟩ = some (.int .i64 i1) := (K5.out.at (w.heap.size + 1) [.int .i64 i1, .int .i64 b] (by simp)).c 0 rfl
  have sr5_2_0 : W5.frozen? ⟨w.heap.size + 1, 0, none⟩ = false := (K5.out.at (w.heap.size + 1) [.int .i64 i1, .int .i64 b] (by simp)).f 0 rfl
  have r5_2_1 : W5.cell? ⟨w.heap.size + 1, 1, none⟩ = some (.int .i64 b) := (K5.out.at (w.heap.size + 1) [.int .i64 i1, .int .i64 b] (by simp)).c 1 rfl
  have sr5_2_1 : W5.frozen? ⟨w.heap.size + 1, 1, none⟩ = false := (K5.out.at (w.heap.size + 1) [.int .i64 i1, .int .i64 b] (by simp)).f 1 rfl
  have My5 := (K5.out.perm (l' := [(w.heap.size, [.int .i64 i0, .int .i64 a]), (w.heap.size + 1, [.int .i64 i1, .int .i64 b]), (w.heap.size + 3, [.int .i64 i3, .int .i64 d]), (w.heap.size + 2, [.int .i64 i2, .int .i64 c])]) (by intro x hx; simp only [List.mem_cons, List.not_mem_nil, or_false] at hx ⊢; rcases hx with h | h | h | h <;> simp [h])).set [.int .i64 i1, .int .i64 b] rfl (by intro x hx; simp only [List.mem_cons, List.not_mem_nil, or_false] at hx; rcases hx with rfl | rfl | rfl <;> simp only [] <;> omega)
  have Mz5 : Hid (BS w [(w.heap.size + 1, [.int .i64 i0, .int .i64 a]), (w.heap.size, [.int .i64 i1, .int .i64 b]), (w.heap.size + 3, [.int .i64 i3, .int .i64 d]), (w.heap.size + 2, [.int .i64 i2, .int .i64 c])] ((W5.setCells (w.heap.size) 0 [.int .i64 i1, .int .i64 b]).setCells (w.heap.size + 1) 0 [.int .i64 i0, .int .i64 a])) := (My5.perm (l' := [(w.heap.size + 1, [.int .i64 i1, .int .i64 b]), (w.heap.size, [.int .i64 i1, .int .i64 b]), (w.heap.size + 3, [.int .i64 i3, .int .i64 d]), (w.heap.size + 2, [.int .i64 i2, .int .i64 c])]) (by intro x hx; simp only [List.mem_cons, List.not_mem_nil, or_false] at hx ⊢; rcases hx with h | h | h | h <;> simp [h])).set [.int .i64 i0, .int .i64 a] rfl (by intro x hx; simp only [List.mem_cons, List.not_mem_nil, or_false] at hx; rcases hx with rfl | rfl | rfl <;> simp only [] <;> omega)
  clear My5
  simp only [World.setCells, Nat.zero_add] at Mz5
  go_upto_region 5 with fail
  refine bs_to Mz5 ?_
  clear r5_1_0 sr5_1_0 r5_1_1 sr5_1_1 r5_2_0 sr5_2_0 r5_2_1 sr5_2_1
  intro W6 K6
  clear Mz5 K5
  obtain ⟨c6_0_0, c6_0_1⟩ := (bo1 K6).c2
  obtain ⟨c6_1_0, c6_1_1⟩ := (bo2 K6).c2
  obtain ⟨c6_2_0, c6_2_1⟩ := (bo3 K6).c2
  obtain ⟨c6_3_0, c6_3_1⟩ := (bo4 K6).c2
  go_wp2_with fail
  refine (D2.out _).mono ?_
  rintro e W7 ⟨rfl, hb⟩
  have K7 := bsb K6 hb
  clear c6_0_0 c6_0_1 c6_1_0 c6_1_1 c6_2_0 c6_2_1 c6_3_0 c6_3_1
  clear hb K6
  obtain ⟨c7_0_0, c7_0_1⟩ := (bo1 K7).c2
  obtain ⟨c7_1_0, c7_1_1⟩ := (bo2 K7).c2
  obtain ⟨c7_2_0, c7_2_1⟩ := (bo3 K7).c2
  obtain ⟨c7_3_0, c7_3_1⟩ := (bo4 K7).c2
  clear c7_0_0 c7_0_1 c7_1_0 c7_1_1 c7_2_0 c7_2_1 c7_3_0 c7_3_1
  have r7_1_0 : W7.cell? ⟨w.heap.size + 2, 0, none⟩ = some (.int .i64 i2) := (K7.out.at (w.heap.size + 2) [.int .i64 i2, .int .i64 c] (by simp)).c 0 rfl
  have sr7_1_0 : W7.frozen? ⟨w.heap.size + 2, 0, none⟩ = false := (K7.out.at (w.heap.size + 2) [.int .i64 i2, .int .i64 c] (by simp)).f 0 rfl
  have r7_1_1 : W7.cell? ⟨w.heap.size + 2, 1, none⟩ = some (.int .i64 c) := (K7.out.at (w.heap.size + 2) [.int .i64 i2, .int .i64 c] (by simp)).c 1 rfl
  have sr7_1_1 : W7.frozen? ⟨w.heap.size + 2, 1, none⟩ = false := (K7.out.at (w.heap.size + 2) [.int .i64 i2, .int .i64 c] (by simp)).f 1 rfl
  have r7_2_0 : W7.cell? ⟨w.heap.size + 3, 0, none⟩ = some (.int .i64 i3) := (K7.out.at (w.heap.size + 3) [.int .i64 i3, .int .i64 d] (by simp)).c 0 rfl
  have sr7_2_0 : W7.frozen? ⟨w.heap.size + 3, 0, none⟩ = false := (K7.out.at (w.heap.size + 3) [.int .i64 i3, .int .i64 d] (by simp)).f 0 rfl
  have r7_2_1 : W7.cell? ⟨w.heap.size + 3, 1, none⟩ = some (.int .i64 d) := (K7.out.at (w.heap.size + 3) [.int .i64 i3, .int .i64 d] (by simp)).c 1 rfl
  have sr7_2_1 : W7.frozen? ⟨w.heap.size + 3, 1, none⟩ = false := (K7.out.at (w.heap.size + 3) [.int .i64 i3, .int .i64 d] (by simp)).f 1 rfl
  have My7 := (K7.out.perm (l' := [(w.heap.size + 2, [.int .i64 i2, .int .i64 c]), (w.heap.size + 3, [.int .i64 i3, .int .i64 d]), (w.heap.size + 1, [.int .i64 i0, .int .i64 a]), (w.heap.size, [.int .i64 i1, .int .i64 b])]) (by intro x hx; simp only [List.mem_cons, List.not_mem_nil, or_false] at hx ⊢; rcases hx with h | h | h | h <;> simp [h])).set [.int .i64 i3, .int .i64 d] rfl (by intro x hx; simp only [List.mem_cons, List.not_mem_nil, or_false] at hx; rcases hx with rfl | rfl | rfl <;> simp only [] <;> omega)
  have Mz7 : Hid (BS w [(w.heap.size + 3, [.int .i64 i2, .int .i64 c]), (w.heap.size + 2, [.int .i64 i3, .int .i64 d]), (w.heap.size + 1, [.int .i64 i0, .int .i64 a]), (w.heap.size, [.int .i64 i1, .int .i64 b])] ((W7.setCells (w.heap.size + 2) 0 [.int .i64 i3, .int .i64 d]).setCells (w.heap.size + 3) 0 [.int .i64 i2, .int .i64 c])) := (My7.perm (l' := [(w.heap.size + 3, [.int .i64 i3, .int .i64 d]), (w.heap.size + 2, [.int .i64 i3, .int .i64 d]), (w.heap.size + 1, [.int .i64 i0, .int .i64 a]), (w.heap.size, [.int .i64 i1, .int .i64 b])]) (by intro x hx; simp only [List.mem_cons, List.not_mem_nil, or_false] at hx ⊢; rcases hx with h | h | h | h <;> simp [h])).set [.int .i64 i2, .int .i64 c] rfl (by intro x hx; simp only [List.mem_cons, List.not_mem_nil, or_false] at hx; rcases hx with rfl | rfl | rfl <;> simp only [] <;> omega)
  clear My7
  simp only [World.setCells, Nat.zero_add] at Mz7
  go_upto_region 7 with fail
  refine bs_to Mz7 ?_
  clear r7_1_0 sr7_1_0 r7_1_1 sr7_1_1 r7_2_0 sr7_2_0 r7_2_1 sr7_2_1
  intro W8 K8
  clear Mz7 K7
  obtain ⟨c8_0_0, c8_0_1⟩ := (bo1 K8).c2
  obtain ⟨c8_1_0, c8_1_1⟩ := (bo2 K8).c2
  obtain ⟨c8_2_0, c8_2_1⟩ := (bo3 K8).c2
  obtain ⟨c8_3_0, c8_3_1⟩ := (bo4 K8).c2
  go_wp2_with fail
  refine (C1.out _).mono ?_
  rintro e W9 ⟨rfl, hb⟩
  have K9 := bsb K8 hb
  clear c8_0_0 c8_0_1 c8_1_0 c8_1_1 c8_2_0 c8_2_1 c8_3_0 c8_3_1
  clear hb K8
  obtain ⟨c9_0_0, c9_0_1⟩ := (bo1 K9).c2
  obtain ⟨c9_1_0, c9_1_1⟩ := (bo2 K9).c2
  obtain ⟨c9_2_0, c9_2_1⟩ := (bo3 K9).c2
  obtain ⟨c9_3_0, c9_3_1⟩ := (bo4 K9).c2
  go_wp2
  go_ret2
  exact ⟨rfl, K9.out.1⟩


end Go.Proofs.YtofmmdfdiaahhaaGreatDoor
