import Derived.Test.YtklehbmghjcmaaaGreatDoorSz
import Derived.Test.YtklehbmghjcmaaaGreatDoorS24
import Derived.Test.YtklehbmghjcmaaaGreatDoorS2
open Go.Value renaming int → vi
open Go.IntKind renaming i64 → ki
open List renaming setIfInBounds_toArray → zb, set_cons_zero → zc, set_cons_succ → zd
open Go.Act renaming put → za
open Go.Ending renaming returned → zr
set_option maxRecDepth 100000
set_option maxHeartbeats 16000000
set_option linter.unusedVariables false
namespace Go.Proofs.YtklehbmghjcmaaaGreatDoor
open Go.RowKit
theorem lo_ok (Ok : World → Prop) (T : List Value) (hT : T.length = 25) (u s p o9 o6 V E : Int) (dd : Bool) (ab : ByteArray) (h6 : IntKind.i64.wrap (o9 * 1000000) = o6)
  (RT : Hid (∀ w : World, Ok w → Calls Tryz.prog 31 #[.agg T.toArray] w fun r' w' => r' = zr (.bool true) ∧ Below w.heap.size w w'))
  (R : Hid (∀ w : World, Ok w → Calls Tryz.prog 32 #[.agg #[vi ki 0, vi ki u]] w fun r' w' => r' = zr (.bool true) ∧ Below w.heap.size w w'))
  (SE : Hid (∀ w : World, Calls Tryz.prog 34 #[.agg #[vi ki 0, vi ki u]] w fun r' w' => r' = zr (vi ki s) ∧ Below w.heap.size w w'))
  (AT : Hid (∀ w : World, Ok w → Calls Tryz.prog 33 #[.agg T.toArray, vi ki s] w fun r' w' => r' = zr (.tuple #[.agg #[vi ki p, vi ki o9, .bool dd, .string ab], vi ki 0]) ∧ Below w.heap.size w w'))
  (MO : Hid (∀ w : World, Ok w → Calls Tryz.prog 35 #[.agg #[vi ki 0, vi ki u], vi ki o6] w fun r' w' => r' = zr (.tuple #[.agg #[vi ki 0, vi ki V], vi ki E]) ∧ Below w.heap.size w w'))
  (w : World) (hL : Hid (∀ W : World, Below w.heap.size w W → Ok W)) :
  Calls Tryz.prog 10 #[.agg T.toArray, .agg #[vi ki 0, vi ki u]] w fun r' w' => r' = zr (.tuple #[.agg #[vi ki 0, vi ki V], vi ki E]) ∧ Below w.heap.size w w' := by
 have K0 := bsn3 w T 44 [vi ki 0, vi ki u] 36 [vi ki 0, vi ki 0] 36
 go_enter Tryz.func10, Tryz.ntmps10
 generalize hUA : T.toArray = UA at *
 go_upto_region 1 with fail
 refine gen_to (BS w [(w.heap.size + 2, [vi ki 0, vi ki 0]), (w.heap.size + 1, [vi ki 0, vi ki u]), (w.heap.size, T)]) K0.out ?_
 clear K0
 intro W0 K0'
 have K0 : Hid (BS w [(w.heap.size + 2, [vi ki 0, vi ki 0]), (w.heap.size + 1, [vi ki 0, vi ki u]), (w.heap.size, T)] W0) := K0'
 clear K0'
 obtain ⟨c0_0_0, c0_0_1⟩ := (bo1 K0).c2
 obtain ⟨c0_1_0, c0_1_1⟩ := (bo2 K0).c2
 go_wp2_with (first | (refine wpList_load_mid rfl 44 _ rfl (w.heap.size) 0 rfl T _ (K0.out.at (w.heap.size) T (by simp)).all Tryz.underlying44 rfl (by rw [hT]; kernel_rfl) ?_; rw [hUA]) | fail)
 refine (RT.out _ (hL.out _ K0.out.1)).mono ?_
 rintro e W1 ⟨rfl, hb⟩
 have K1 := bsb K0 hb
 clear c0_0_0 c0_0_1 c0_1_0 c0_1_1
 clear hb K0
 obtain ⟨c1_0_0, c1_0_1⟩ := (bo1 K1).c2
 obtain ⟨c1_1_0, c1_1_1⟩ := (bo2 K1).c2
 go_wp2_with (first | (refine wpList_load_mid rfl 44 _ rfl (w.heap.size) 0 rfl T _ (K1.out.at (w.heap.size) T (by simp)).all Tryz.underlying44 rfl (by rw [hT]; kernel_rfl) ?_; rw [hUA]) | fail)
 refine (R.out _ (hL.out _ K1.out.1)).mono ?_
 rintro e W2 ⟨rfl, hb⟩
 have K2 := bsb K1 hb
 clear c1_0_0 c1_0_1 c1_1_0 c1_1_1
 clear hb K1
 obtain ⟨c2_0_0, c2_0_1⟩ := (bo1 K2).c2
 obtain ⟨c2_1_0, c2_1_1⟩ := (bo2 K2).c2
 go_wp2_with fail
 go_cut [6, 7] (fun v0 v1 wx => ∃ nb, v0 = .pointer (some ⟨nb, 0, none⟩) ∧ v1 = vi ki 0 ∧ Hid (BS w ((nb, [vi ki p, vi ki o9, .bool dd, .string ab]) :: [(w.heap.size + 2, [vi ki 0, vi ki 0]), (w.heap.size + 1, [vi ki 0, vi ki u]), (w.heap.size, T)]) wx ∧ (∀ x ∈ [(w.heap.size + 2, [vi ki 0, vi ki 0]), (w.heap.size + 1, [vi ki 0, vi ki u]), (w.heap.size, T)], x.1 ≠ nb)))
 case first =>
  refine wp_region_held_drew (S := BS w [(w.heap.size + 2, [vi ki 0, vi ki 0]), (w.heap.size + 1, [vi ki 0, vi ki u]), (w.heap.size, T)]) (by kernel_rfl) K2.out.drew (fun hHeld => ?_)
  refine wpAnyH_take (i := 0) (v := .agg UA) (oi := ⟨some 22, _, _, _, _, none⟩) rfl (by kernel_rfl) (by kernel_rfl) (by kernel_rfl) (fun _ _ _ h => h) (Or.inl ⟨by kernel_rfl, ?_⟩) (by assumption) ?_
  case refine_1 => (intro w9 hSw; rw [← hUA]; exact exec_row9 rfl rfl (hSw.at (w.heap.size) T (by simp)).all Tryz.underlying44 rfl (by rw [hT]; kernel_rfl))
  simp only [za, zb, zc, zd]
  refine tk (v := ?_) 1 ⟨some 23, _, _, _, _, none⟩ rfl ?_ ?_
  case refine_2 => (intro w9 hSw; obtain ⟨l0_0, l0_1⟩ := (hSw.at (w.heap.size + 2) [vi ki 0, vi ki 0] (by simp)).c2; obtain ⟨l1_0, l1_1⟩ := (hSw.at (w.heap.size + 1) [vi ki 0, vi ki u] (by simp)).c2; clear hSw; go_simp; try with_reducible rfl)
  simp only [za, zb, zc, zd]
  refine wpAnyH_ready (rs := [2, 7]) (by kernel_rfl) (by simp) (AllReadyH.cons (o := ⟨some 24, _, _, _, _, none⟩) rfl (fun K hK => ?_) (AllReadyH.cons (o := ⟨some 6, _, _, _, _, none⟩) rfl (fun K hK => ?_) AllReadyH.nil))
  ·
   go_simp
   refine (SE.out _).mono ?_
   rintro e v1 ⟨rfl, hb1⟩
   refine hK.out _ _ (hHeld.below hb1) (fun hHeld => ?_)
   try (have HN2 := HN.out.below hb1; clear HN; have HN : Hid (NB _ _ _ _ _) := HN2; clear HN2)
   clear hK K hb1
   refine wpAnyH_ready (rs := [3, 7]) (by kernel_rfl) (by simp) (AllReadyH.cons (o := ⟨some 25, _, _, _, _, none⟩) rfl (fun K hK => ?_) (AllReadyH.cons (o := ⟨some 6, _, _, _, _, none⟩) rfl (fun K hK => ?_) AllReadyH.nil))
   ·
    go_simp
    refine (AT.out _ (hL.out _ hHeld.1)).mono ?_
    rintro e v2 ⟨rfl, hb2⟩
    refine hK.out _ _ (hHeld.below hb2) (fun hHeld => ?_)
    try (have HN2 := HN.out.below hb2; clear HN; have HN : Hid (NB _ _ _ _ _) := HN2; clear HN2)
    clear hK K hb2
    refine tks 4 ⟨some 21, _, _, _, _, none⟩ rfl ?_
    simp only [za, zb, zc, zd]
    refine tks 5 ⟨some 26, _, _, _, _, none⟩ rfl ?_
    simp only [za, zb, zc, zd]
    refine tks 6 ⟨some 27, _, _, _, _, none⟩ rfl ?_
    simp only [za, zb, zc, zd]
    refine rd 7 ⟨some 6, _, _, _, _, none⟩ rfl (fun K hK => ?_)
    go_simp
    have hH0 := hHeld
    refine hK.out _ _ (hHeld.alloc _) (fun hHeld => ?_)
    have HN : Hid (NB _ _ _ _ [vi ki 0, vi ki 0, .bool false, .string ⟨#[]⟩]) := hH0.nb hHeld
    clear hK K hH0
    refine rd 8 ⟨none, _, _, _, _, none⟩ rfl (fun K hK => ?_)
    refine (if_pos (by kernel_rfl)).mpr (wp_store_mid 23 _ _ rfl _ 0 #[vi ki p, vi ki o9, .bool dd, .string ab] rfl rfl HN.out.1.there (by kernel_rfl) (by simp [Value.oneCell']) (hK.out _ _ (hHeld.off HN.out.2.1 HN.out.2.2 _) (fun hHeld => ?_)))
    have HN2 : Hid (BS w ((_, [vi ki p, vi ki o9, .bool dd, .string ab]) :: [(w.heap.size + 2, [vi ki 0, vi ki 0]), (w.heap.size + 1, [vi ki 0, vi ki u]), (w.heap.size, T)]) _ ∧ _) := ⟨⟨hHeld.1, fun x hx => by rcases List.mem_cons.1 hx with rfl | hx; exact ⟨HN.out.2.1, HN.out.1.setAll _ rfl⟩; exact hHeld.2 x hx⟩, HN.out.2.2⟩
    clear hK K HN
    refine tks 9 ⟨some 7, _, _, _, _, none⟩ rfl ?_
    simp only [za, zb, zc, zd]
    refine wpAnyH_done (by kernel_rfl) ?_ _
    go_wp2_with fail
    go_meet
    case rel => exact ⟨_, rfl, rfl, HN2.out⟩
   ·
    go_simp
    have hH0 := hHeld
    refine hK.out _ _ (hHeld.alloc _) (fun hHeld => ?_)
    have HN : Hid (NB _ _ _ _ [vi ki 0, vi ki 0, .bool false, .string ⟨#[]⟩]) := hH0.nb hHeld
    clear hK K hH0
    refine rd 3 ⟨some 25, _, _, _, _, none⟩ rfl (fun K hK => ?_)
    go_simp
    refine (AT.out _ (hL.out _ hHeld.1)).mono ?_
    rintro e v6 ⟨rfl, hb6⟩
    refine hK.out _ _ (hHeld.below hb6) (fun hHeld => ?_)
    try (have HN2 := HN.out.below hb6; clear HN; have HN : Hid (NB _ _ _ _ _) := HN2; clear HN2)
    clear hK K hb6
    refine tks 4 ⟨some 21, _, _, _, _, none⟩ rfl ?_
    simp only [za, zb, zc, zd]
    refine tks 5 ⟨some 26, _, _, _, _, none⟩ rfl ?_
    simp only [za, zb, zc, zd]
    refine tks 6 ⟨some 27, _, _, _, _, none⟩ rfl ?_
    simp only [za, zb, zc, zd]
    refine rd 8 ⟨none, _, _, _, _, none⟩ rfl (fun K hK => ?_)
    refine (if_pos (by kernel_rfl)).mpr (wp_store_mid 23 _ _ rfl _ 0 #[vi ki p, vi ki o9, .bool dd, .string ab] rfl rfl HN.out.1.there (by kernel_rfl) (by simp [Value.oneCell']) (hK.out _ _ (hHeld.off HN.out.2.1 HN.out.2.2 _) (fun hHeld => ?_)))
    have HN2 : Hid (BS w ((_, [vi ki p, vi ki o9, .bool dd, .string ab]) :: [(w.heap.size + 2, [vi ki 0, vi ki 0]), (w.heap.size + 1, [vi ki 0, vi ki u]), (w.heap.size, T)]) _ ∧ _) := ⟨⟨hHeld.1, fun x hx => by rcases List.mem_cons.1 hx with rfl | hx; exact ⟨HN.out.2.1, HN.out.1.setAll _ rfl⟩; exact hHeld.2 x hx⟩, HN.out.2.2⟩
    clear hK K HN
    refine tks 9 ⟨some 7, _, _, _, _, none⟩ rfl ?_
    simp only [za, zb, zc, zd]
    refine wpAnyH_done (by kernel_rfl) ?_ _
    go_wp2_with fail
    go_meet
    case rel => exact ⟨_, rfl, rfl, HN2.out⟩
  ·
   go_simp
   have hH0 := hHeld
   refine hK.out _ _ (hHeld.alloc _) (fun hHeld => ?_)
   have HN : Hid (NB _ _ _ _ [vi ki 0, vi ki 0, .bool false, .string ⟨#[]⟩]) := hH0.nb hHeld
   clear hK K hH0
   refine rd 2 ⟨some 24, _, _, _, _, none⟩ rfl (fun K hK => ?_)
   go_simp
   refine (SE.out _).mono ?_
   rintro e v9 ⟨rfl, hb9⟩
   refine hK.out _ _ (hHeld.below hb9) (fun hHeld => ?_)
   try (have HN2 := HN.out.below hb9; clear HN; have HN : Hid (NB _ _ _ _ _) := HN2; clear HN2)
   clear hK K hb9
   refine rd 3 ⟨some 25, _, _, _, _, none⟩ rfl (fun K hK => ?_)
   go_simp
   refine (AT.out _ (hL.out _ hHeld.1)).mono ?_
   rintro e v10 ⟨rfl, hb10⟩
   refine hK.out _ _ (hHeld.below hb10) (fun hHeld => ?_)
   try (have HN2 := HN.out.below hb10; clear HN; have HN : Hid (NB _ _ _ _ _) := HN2; clear HN2)
   clear hK K hb10
   refine tks 4 ⟨some 21, _, _, _, _, none⟩ rfl ?_
   simp only [za, zb, zc, zd]
   refine tks 5 ⟨some 26, _, _, _, _, none⟩ rfl ?_
   simp only [za, zb, zc, zd]
   refine tks 6 ⟨some 27, _, _, _, _, none⟩ rfl ?_
   simp only [za, zb, zc, zd]
   refine rd 8 ⟨none, _, _, _, _, none⟩ rfl (fun K hK => ?_)
   refine (if_pos (by kernel_rfl)).mpr (wp_store_mid 23 _ _ rfl _ 0 #[vi ki p, vi ki o9, .bool dd, .string ab] rfl rfl HN.out.1.there (by kernel_rfl) (by simp [Value.oneCell']) (hK.out _ _ (hHeld.off HN.out.2.1 HN.out.2.2 _) (fun hHeld => ?_)))
   have HN2 : Hid (BS w ((_, [vi ki p, vi ki o9, .bool dd, .string ab]) :: [(w.heap.size + 2, [vi ki 0, vi ki 0]), (w.heap.size + 1, [vi ki 0, vi ki u]), (w.heap.size, T)]) _ ∧ _) := ⟨⟨hHeld.1, fun x hx => by rcases List.mem_cons.1 hx with rfl | hx; exact ⟨HN.out.2.1, HN.out.1.setAll _ rfl⟩; exact hHeld.2 x hx⟩, HN.out.2.2⟩
   clear hK K HN
   refine tks 9 ⟨some 7, _, _, _, _, none⟩ rfl ?_
   simp only [za, zb, zc, zd]
   refine wpAnyH_done (by kernel_rfl) ?_ _
   go_wp2_with fail
   go_meet
   case rel => exact ⟨_, rfl, rfl, HN2.out⟩
 case rest =>
  clear c2_0_0 c2_0_1 c2_1_0 c2_1_1
  obtain ⟨nb2, rfl, rfl, KK⟩ := hcut
  clear K2
  have K3 : Hid (BS w [(nb2, [vi ki p, vi ki o9, .bool dd, .string ab]), (w.heap.size + 2, [vi ki 0, vi ki 0]), (w.heap.size + 1, [vi ki 0, vi ki u]), (w.heap.size, T)] wc) := KK.out.1
  have ne3_0 : w.heap.size + 2 ≠ nb2 := KK.out.2 (w.heap.size + 2, [vi ki 0, vi ki 0]) (by simp)
  have ne3_1 : w.heap.size + 1 ≠ nb2 := KK.out.2 (w.heap.size + 1, [vi ki 0, vi ki u]) (by simp)
  have ne3_2 : w.heap.size ≠ nb2 := KK.out.2 (w.heap.size, T) (by simp)
  clear KK
  obtain ⟨c3_0_0, c3_0_1, c3_0_2, c3_0_3⟩ := (bo1 K3).c4
  obtain ⟨c3_1_0, c3_1_1⟩ := (bo2 K3).c2
  obtain ⟨c3_2_0, c3_2_1⟩ := (bo3 K3).c2
  go_wp2_with (first | (refine wpList_load_mid rfl 44 _ rfl (w.heap.size) 0 rfl T _ (K3.out.at (w.heap.size) T (by simp)).all Tryz.underlying44 rfl (by rw [hT]; kernel_rfl) ?_; rw [hUA]) | fail)
  refine (MO.out _ (hL.out _ K3.out.1)).mono ?_
  rintro e W4 ⟨rfl, hb⟩
  have K4 := bsb K3 hb
  clear c3_0_0 c3_0_1 c3_0_2 c3_0_3 c3_1_0 c3_1_1 c3_2_0 c3_2_1
  clear hb K3
  obtain ⟨c4_0_0, c4_0_1, c4_0_2, c4_0_3⟩ := (bo1 K4).c4
  obtain ⟨c4_1_0, c4_1_1⟩ := (bo2 K4).c2
  obtain ⟨z4_1_0, z4_1_1⟩ := (bo2 K4).f2
  obtain ⟨c4_2_0, c4_2_1⟩ := (bo3 K4).c2
  have XF : Hid (Bx (W4.setCells (w.heap.size + 2) 0 [vi ki 0, vi ki V]) (w.heap.size + 2) [vi ki 0, vi ki V]) := (K4.out.at (w.heap.size + 2) [vi ki 0, vi ki 0] (by simp)).setAll _ rfl
  have BF : Hid (Below w.heap.size w (W4.setCells (w.heap.size + 2) 0 [vi ki 0, vi ki V])) := below_setCells (by omega) _ _ _ K4.out.1
  have y0 := XF.out.c 0 rfl
  have y1 := XF.out.c 1 rfl
  simp only [World.setCells, Nat.zero_add] at y0 y1
  clear XF
  go_wp2
  exact bodyPost_ret (v := .tuple #[.agg #[vi ki 0, vi ki V], vi ki E]) (by simp [results, Tryz.results10, go_sem, y0, y1]) rfl ⟨rfl, BF.out⟩
end Go.Proofs.YtklehbmghjcmaaaGreatDoor
