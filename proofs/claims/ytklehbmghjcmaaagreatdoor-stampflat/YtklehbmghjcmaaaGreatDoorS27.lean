import Derived.Test.YtklehbmghjcmaaaGreatDoorSz
import Derived.Test.YtklehbmghjcmaaaGreatDoorS24
import Derived.Test.YtklehbmghjcmaaaGreatDoorS2
open Go.Value renaming int → vi
open Go.IntKind renaming i64 → ki
open List renaming setIfInBounds_toArray → zb, set_cons_zero → zc, set_cons_succ → zd
open Go.Act renaming put → za
open Go.Ending renaming returned → zr
set_option maxRecDepth 100000
set_option maxHeartbeats 16000000
set_option linter.unusedVariables false
namespace Go.Proofs.YtklehbmghjcmaaaGreatDoor
open Go.RowKit
theorem in_ok (Ok : World → Prop) (T : List Value) (hT : T.length = 25) (u s a9 how d9 d6 V e : Int) (h9 : IntKind.i64.wrap (a9 - s) = d9) (h6 : IntKind.i64.wrap (d9 * 1000000) = d6)
  (RT : Hid (∀ w : World, Ok w → Calls Tryz.prog 31 #[.agg T.toArray] w fun r' w' => r' = zr (.bool true) ∧ Below w.heap.size w w'))
  (R : Hid (∀ w : World, Ok w → Calls Tryz.prog 32 #[.agg #[vi ki 0, vi ki u]] w fun r' w' => r' = zr (.bool true) ∧ Below w.heap.size w w'))
  (SE : Hid (∀ w : World, Calls Tryz.prog 34 #[.agg #[vi ki 0, vi ki u]] w fun r' w' => r' = zr (vi ki s) ∧ Below w.heap.size w w'))
  (IN : Hid (∀ w : World, Ok w → Calls Tryz.prog 40 #[.agg T.toArray, vi ki s] w fun r' w' => r' = zr (.tuple #[vi ki a9, vi ki how, vi ki 0]) ∧ Below w.heap.size w w'))
  (MO : Hid (∀ w : World, Ok w → Calls Tryz.prog 35 #[.agg #[vi ki 0, vi ki u], vi ki d6] w fun r' w' => r' = zr (.tuple #[.agg #[vi ki 0, vi ki V], vi ki 0]) ∧ Below w.heap.size w w'))
  (w : World) (hL : Hid (∀ W : World, Below w.heap.size w W → Ok W)) :
  Calls Tryz.prog 12 #[.agg T.toArray, .agg #[vi ki 0, vi ki u]] w fun r' w' => r' = zr (.tuple #[.agg #[vi ki 0, vi ki V], vi ki how, vi ki 0]) ∧ Below w.heap.size w w' := by
 have K0 := bsn3 w T 44 [vi ki 0, vi ki u] 36 [vi ki 0, vi ki 0] 36
 go_enter Tryz.func12, Tryz.ntmps12
 generalize hUA : T.toArray = UA at *
 go_upto_region 1 with fail
 refine gen_to (BS w [(w.heap.size + 2, [vi ki 0, vi ki 0]), (w.heap.size + 1, [vi ki 0, vi ki u]), (w.heap.size, T)]) K0.out ?_
 clear K0
 intro W0 K0'
 have K0 : Hid (BS w [(w.heap.size + 2, [vi ki 0, vi ki 0]), (w.heap.size + 1, [vi ki 0, vi ki u]), (w.heap.size, T)] W0) := K0'
 clear K0'
 obtain ⟨c0_0_0, c0_0_1⟩ := (bo1 K0).c2
 obtain ⟨c0_1_0, c0_1_1⟩ := (bo2 K0).c2
 go_wp2_with (first | (refine wpList_load_mid rfl 44 _ rfl (w.heap.size) 0 rfl T _ (K0.out.at (w.heap.size) T (by simp)).all Tryz.underlying44 rfl (by rw [hT]; kernel_rfl) ?_; rw [hUA]) | fail)
 refine (RT.out _ (hL.out _ K0.out.1)).mono ?_
 rintro e W1 ⟨rfl, hb⟩
 have K1 := bsb K0 hb
 clear c0_0_0 c0_0_1 c0_1_0 c0_1_1
 clear hb K0
 obtain ⟨c1_0_0, c1_0_1⟩ := (bo1 K1).c2
 obtain ⟨c1_1_0, c1_1_1⟩ := (bo2 K1).c2
 go_wp2_with (first | (refine wpList_load_mid rfl 44 _ rfl (w.heap.size) 0 rfl T _ (K1.out.at (w.heap.size) T (by simp)).all Tryz.underlying44 rfl (by rw [hT]; kernel_rfl) ?_; rw [hUA]) | fail)
 refine (R.out _ (hL.out _ K1.out.1)).mono ?_
 rintro e W2 ⟨rfl, hb⟩
 have K2 := bsb K1 hb
 clear c1_0_0 c1_0_1 c1_1_0 c1_1_1
 clear hb K1
 obtain ⟨c2_0_0, c2_0_1⟩ := (bo1 K2).c2
 obtain ⟨c2_1_0, c2_1_1⟩ := (bo2 K2).c2
 go_wp2_with fail
 go_cut [7, 8, 9] (fun v0 v1 v2 wx => v0 = vi ki a9 ∧ v1 = vi ki how ∧ v2 = vi ki 0 ∧ Hid (BS w [(w.heap.size + 2, [vi ki 0, vi ki 0]), (w.heap.size + 1, [vi ki 0, vi ki u]), (w.heap.size, T)] wx))
 case first =>
  refine wp_region_held_drew (S := BS w [(w.heap.size + 2, [vi ki 0, vi ki 0]), (w.heap.size + 1, [vi ki 0, vi ki u]), (w.heap.size, T)]) (by kernel_rfl) K2.out.drew (fun hHeld => ?_)
  refine wpAnyH_take (i := 0) (v := .agg UA) (oi := ⟨some 25, _, _, _, _, none⟩) rfl (by kernel_rfl) (by kernel_rfl) (by kernel_rfl) (fun _ _ _ h => h) (Or.inl ⟨by kernel_rfl, ?_⟩) (by assumption) ?_
  case refine_1 => (intro w9 hSw; rw [← hUA]; exact exec_row9 rfl rfl (hSw.at (w.heap.size) T (by simp)).all Tryz.underlying44 rfl (by rw [hT]; kernel_rfl))
  simp only [za, zb, zc, zd]
  refine tk (v := ?_) 1 ⟨some 26, _, _, _, _, none⟩ rfl ?_ ?_
  case refine_2 => (intro w9 hSw; obtain ⟨l0_0, l0_1⟩ := (hSw.at (w.heap.size + 2) [vi ki 0, vi ki 0] (by simp)).c2; obtain ⟨l1_0, l1_1⟩ := (hSw.at (w.heap.size + 1) [vi ki 0, vi ki u] (by simp)).c2; clear hSw; go_simp; try with_reducible rfl)
  simp only [za, zb, zc, zd]
  refine rd 2 ⟨some 27, _, _, _, _, none⟩ rfl (fun K hK => ?_)
  go_simp
  refine (SE.out _).mono ?_
  rintro e v1 ⟨rfl, hb1⟩
  refine hK.out _ _ (hHeld.below hb1) (fun hHeld => ?_)
  clear hK K hb1
  refine rd 3 ⟨some 28, _, _, _, _, none⟩ rfl (fun K hK => ?_)
  go_simp
  refine (IN.out _ (hL.out _ hHeld.1)).mono ?_
  rintro e v2 ⟨rfl, hb2⟩
  refine hK.out _ _ (hHeld.below hb2) (fun hHeld => ?_)
  clear hK K hb2
  refine tks 4 ⟨some 24, _, _, _, _, none⟩ rfl ?_
  simp only [za, zb, zc, zd]
  refine tks 5 ⟨some 29, _, _, _, _, none⟩ rfl ?_
  simp only [za, zb, zc, zd]
  refine tks 6 ⟨some 30, _, _, _, _, none⟩ rfl ?_
  simp only [za, zb, zc, zd]
  refine tks 7 ⟨some 31, _, _, _, _, none⟩ rfl ?_
  simp only [za, zb, zc, zd]
  refine tks 8 ⟨some 7, _, _, _, _, none⟩ rfl ?_
  simp only [za, zb, zc, zd]
  refine tks 9 ⟨some 8, _, _, _, _, none⟩ rfl ?_
  simp only [za, zb, zc, zd]
  refine tks 10 ⟨some 9, _, _, _, _, none⟩ rfl ?_
  simp only [za, zb, zc, zd]
  refine wpAnyH_done (by kernel_rfl) ?_ _
  go_wp2_with fail
  go_meet
  case rel => exact ⟨rfl, rfl, rfl, hHeld⟩
 case rest =>
  clear c2_0_0 c2_0_1 c2_1_0 c2_1_1
  obtain ⟨rfl, rfl, rfl, K3⟩ := hcut
  clear K2
  skip
  obtain ⟨c3_0_0, c3_0_1⟩ := (bo1 K3).c2
  obtain ⟨c3_1_0, c3_1_1⟩ := (bo2 K3).c2
  go_wp2_with fail
  go_cut [10, 9] (fun v0 v1 wx => ∃ nb, v0 = .pointer (some ⟨nb, 0, none⟩) ∧ v1 = vi ki 0 ∧ Hid (BS w ((nb, [vi ki 0, vi ki V]) :: [(w.heap.size + 2, [vi ki 0, vi ki 0]), (w.heap.size + 1, [vi ki 0, vi ki u]), (w.heap.size, T)]) wx ∧ (∀ x ∈ [(w.heap.size + 2, [vi ki 0, vi ki 0]), (w.heap.size + 1, [vi ki 0, vi ki u]), (w.heap.size, T)], x.1 ≠ nb)))
  case first =>
   refine wp_region_held_drew (S := BS w [(w.heap.size + 2, [vi ki 0, vi ki 0]), (w.heap.size + 1, [vi ki 0, vi ki u]), (w.heap.size, T)]) (by kernel_rfl) K3.out.drew (fun hHeld => ?_)
   refine tk (v := ?_) 0 ⟨some 37, _, _, _, _, none⟩ rfl ?_ ?_
   case refine_2 => (intro w9 hSw; obtain ⟨l0_0, l0_1⟩ := (hSw.at (w.heap.size + 2) [vi ki 0, vi ki 0] (by simp)).c2; obtain ⟨l1_0, l1_1⟩ := (hSw.at (w.heap.size + 1) [vi ki 0, vi ki u] (by simp)).c2; clear hSw; go_simp; try with_reducible rfl)
   simp only [za, zb, zc, zd]
   refine tks 1 ⟨some 38, _, _, _, _, none⟩ rfl ?_
   simp only [za, zb, zc, zd]
   refine tk (v := ?_) 2 ⟨some 39, _, _, _, _, none⟩ rfl ?_ ?_
   case refine_2 => (intro w9 hSw; obtain ⟨l0_0, l0_1⟩ := (hSw.at (w.heap.size + 2) [vi ki 0, vi ki 0] (by simp)).c2; obtain ⟨l1_0, l1_1⟩ := (hSw.at (w.heap.size + 1) [vi ki 0, vi ki u] (by simp)).c2; clear hSw; go_simp; try with_reducible rfl)
   simp only [za, zb, zc, zd]
   refine wpAnyH_ready (rs := [3, 10]) (by kernel_rfl) (by simp) (AllReadyH.cons (o := ⟨some 40, _, _, _, _, none⟩) rfl (fun K hK => ?_) (AllReadyH.cons (o := ⟨some 10, _, _, _, _, none⟩) rfl (fun K hK => ?_) AllReadyH.nil))
   ·
    go_simp
    refine (SE.out _).mono ?_
    rintro e v1 ⟨rfl, hb1⟩
    refine hK.out _ _ (hHeld.below hb1) (fun hHeld => ?_)
    try (have HN2 := HN.out.below hb1; clear HN; have HN : Hid (NB _ _ _ _ _) := HN2; clear HN2)
    clear hK K hb1
    refine tks 4 ⟨some 41, _, _, _, _, none⟩ rfl ?_
    simp only [za, zb, zc, zd]
    refine tks 5 ⟨some 42, _, _, _, _, none⟩ rfl ?_
    simp only [za, zb, zc, zd]
    refine wpAnyH_ready (rs := [6, 10]) (by kernel_rfl) (by simp) (AllReadyH.cons (o := ⟨some 43, _, _, _, _, none⟩) rfl (fun K hK => ?_) (AllReadyH.cons (o := ⟨some 10, _, _, _, _, none⟩) rfl (fun K hK => ?_) AllReadyH.nil))
    ·
     go_simp
     refine (MO.out _ (hL.out _ hHeld.1)).mono ?_
     rintro e v2 ⟨rfl, hb2⟩
     refine hK.out _ _ (hHeld.below hb2) (fun hHeld => ?_)
     try (have HN2 := HN.out.below hb2; clear HN; have HN : Hid (NB _ _ _ _ _) := HN2; clear HN2)
     clear hK K hb2
     refine tks 7 ⟨some 36, _, _, _, _, none⟩ rfl ?_
     simp only [za, zb, zc, zd]
     refine tks 8 ⟨some 44, _, _, _, _, none⟩ rfl ?_
     simp only [za, zb, zc, zd]
     refine tks 9 ⟨some 45, _, _, _, _, none⟩ rfl ?_
     simp only [za, zb, zc, zd]
     refine rd 10 ⟨some 10, _, _, _, _, none⟩ rfl (fun K hK => ?_)
     go_simp
     have hH0 := hHeld
     refine hK.out _ _ (hHeld.alloc _) (fun hHeld => ?_)
     have HN : Hid (NB _ _ _ _ [vi ki 0, vi ki 0]) := hH0.nb hHeld
     clear hK K hH0
     refine rd 11 ⟨none, _, _, _, _, none⟩ rfl (fun K hK => ?_)
     refine (if_pos (by kernel_rfl)).mpr (wp_store_mid 36 _ _ rfl _ 0 #[vi ki 0, vi ki V] rfl rfl HN.out.1.there (by kernel_rfl) (by simp [Value.oneCell']) (hK.out _ _ (hHeld.off HN.out.2.1 HN.out.2.2 _) (fun hHeld => ?_)))
     have HN2 : Hid (BS w ((_, [vi ki 0, vi ki V]) :: [(w.heap.size + 2, [vi ki 0, vi ki 0]), (w.heap.size + 1, [vi ki 0, vi ki u]), (w.heap.size, T)]) _ ∧ _) := ⟨⟨hHeld.1, fun x hx => by rcases List.mem_cons.1 hx with rfl | hx; exact ⟨HN.out.2.1, HN.out.1.setAll _ rfl⟩; exact hHeld.2 x hx⟩, HN.out.2.2⟩
     clear hK K HN
     refine tks 12 ⟨some 9, _, _, _, _, none⟩ rfl ?_
     simp only [za, zb, zc, zd]
     refine wpAnyH_done (by kernel_rfl) ?_ _
     go_wp2_with fail
     go_meet
     case rel => exact ⟨_, rfl, rfl, HN2.out⟩
    ·
     go_simp
     have hH0 := hHeld
     refine hK.out _ _ (hHeld.alloc _) (fun hHeld => ?_)
     have HN : Hid (NB _ _ _ _ [vi ki 0, vi ki 0]) := hH0.nb hHeld
     clear hK K hH0
     refine rd 6 ⟨some 43, _, _, _, _, none⟩ rfl (fun K hK => ?_)
     go_simp
     refine (MO.out _ (hL.out _ hHeld.1)).mono ?_
     rintro e v6 ⟨rfl, hb6⟩
     refine hK.out _ _ (hHeld.below hb6) (fun hHeld => ?_)
     try (have HN2 := HN.out.below hb6; clear HN; have HN : Hid (NB _ _ _ _ _) := HN2; clear HN2)
     clear hK K hb6
     refine tks 7 ⟨some 36, _, _, _, _, none⟩ rfl ?_
     simp only [za, zb, zc, zd]
     refine tks 8 ⟨some 44, _, _, _, _, none⟩ rfl ?_
     simp only [za, zb, zc, zd]
     refine tks 9 ⟨some 45, _, _, _, _, none⟩ rfl ?_
     simp only [za, zb, zc, zd]
     refine rd 11 ⟨none, _, _, _, _, none⟩ rfl (fun K hK => ?_)
     refine (if_pos (by kernel_rfl)).mpr (wp_store_mid 36 _ _ rfl _ 0 #[vi ki 0, vi ki V] rfl rfl HN.out.1.there (by kernel_rfl) (by simp [Value.oneCell']) (hK.out _ _ (hHeld.off HN.out.2.1 HN.out.2.2 _) (fun hHeld => ?_)))
     have HN2 : Hid (BS w ((_, [vi ki 0, vi ki V]) :: [(w.heap.size + 2, [vi ki 0, vi ki 0]), (w.heap.size + 1, [vi ki 0, vi ki u]), (w.heap.size, T)]) _ ∧ _) := ⟨⟨hHeld.1, fun x hx => by rcases List.mem_cons.1 hx with rfl | hx; exact ⟨HN.out.2.1, HN.out.1.setAll _ rfl⟩; exact hHeld.2 x hx⟩, HN.out.2.2⟩
     clear hK K HN
     refine tks 12 ⟨some 9, _, _, _, _, none⟩ rfl ?_
     simp only [za, zb, zc, zd]
     refine wpAnyH_done (by kernel_rfl) ?_ _
     go_wp2_with fail
     go_meet
     case rel => exact ⟨_, rfl, rfl, HN2.out⟩
   ·
    go_simp
    have hH0 := hHeld
    refine hK.out _ _ (hHeld.alloc _) (fun hHeld => ?_)
    have HN : Hid (NB _ _ _ _ [vi ki 0, vi ki 0]) := hH0.nb hHeld
    clear hK K hH0
    refine rd 3 ⟨some 40, _, _, _, _, none⟩ rfl (fun K hK => ?_)
    go_simp
    refine (SE.out _).mono ?_
    rintro e v9 ⟨rfl, hb9⟩
    refine hK.out _ _ (hHeld.below hb9) (fun hHeld => ?_)
    try (have HN2 := HN.out.below hb9; clear HN; have HN : Hid (NB _ _ _ _ _) := HN2; clear HN2)
    clear hK K hb9
    refine tks 4 ⟨some 41, _, _, _, _, none⟩ rfl ?_
    simp only [za, zb, zc, zd]
    refine tks 5 ⟨some 42, _, _, _, _, none⟩ rfl ?_
    simp only [za, zb, zc, zd]
    refine rd 6 ⟨some 43, _, _, _, _, none⟩ rfl (fun K hK => ?_)
    go_simp
    refine (MO.out _ (hL.out _ hHeld.1)).mono ?_
    rintro e v10 ⟨rfl, hb10⟩
    refine hK.out _ _ (hHeld.below hb10) (fun hHeld => ?_)
    try (have HN2 := HN.out.below hb10; clear HN; have HN : Hid (NB _ _ _ _ _) := HN2; clear HN2)
    clear hK K hb10
    refine tks 7 ⟨some 36, _, _, _, _, none⟩ rfl ?_
    simp only [za, zb, zc, zd]
    refine tks 8 ⟨some 44, _, _, _, _, none⟩ rfl ?_
    simp only [za, zb, zc, zd]
    refine tks 9 ⟨some 45, _, _, _, _, none⟩ rfl ?_
    simp only [za, zb, zc, zd]
    refine rd 11 ⟨none, _, _, _, _, none⟩ rfl (fun K hK => ?_)
    refine (if_pos (by kernel_rfl)).mpr (wp_store_mid 36 _ _ rfl _ 0 #[vi ki 0, vi ki V] rfl rfl HN.out.1.there (by kernel_rfl) (by simp [Value.oneCell']) (hK.out _ _ (hHeld.off HN.out.2.1 HN.out.2.2 _) (fun hHeld => ?_)))
    have HN2 : Hid (BS w ((_, [vi ki 0, vi ki V]) :: [(w.heap.size + 2, [vi ki 0, vi ki 0]), (w.heap.size + 1, [vi ki 0, vi ki u]), (w.heap.size, T)]) _ ∧ _) := ⟨⟨hHeld.1, fun x hx => by rcases List.mem_cons.1 hx with rfl | hx; exact ⟨HN.out.2.1, HN.out.1.setAll _ rfl⟩; exact hHeld.2 x hx⟩, HN.out.2.2⟩
    clear hK K HN
    refine tks 12 ⟨some 9, _, _, _, _, none⟩ rfl ?_
    simp only [za, zb, zc, zd]
    refine wpAnyH_done (by kernel_rfl) ?_ _
    go_wp2_with fail
    go_meet
    case rel => exact ⟨_, rfl, rfl, HN2.out⟩
  case rest =>
   clear c3_0_0 c3_0_1 c3_1_0 c3_1_1
   obtain ⟨nb3, rfl, rfl, KK⟩ := hcut
   clear K3
   have K4 : Hid (BS w [(nb3, [vi ki 0, vi ki V]), (w.heap.size + 2, [vi ki 0, vi ki 0]), (w.heap.size + 1, [vi ki 0, vi ki u]), (w.heap.size, T)] wc) := KK.out.1
   have ne4_0 : w.heap.size + 2 ≠ nb3 := KK.out.2 (w.heap.size + 2, [vi ki 0, vi ki 0]) (by simp)
   have ne4_1 : w.heap.size + 1 ≠ nb3 := KK.out.2 (w.heap.size + 1, [vi ki 0, vi ki u]) (by simp)
   have ne4_2 : w.heap.size ≠ nb3 := KK.out.2 (w.heap.size, T) (by simp)
   clear KK
   obtain ⟨c4_0_0, c4_0_1⟩ := (bo1 K4).c2
   obtain ⟨c4_1_0, c4_1_1⟩ := (bo2 K4).c2
   obtain ⟨c4_2_0, c4_2_1⟩ := (bo3 K4).c2
   clear c4_0_0 c4_0_1 c4_1_0 c4_1_1 c4_2_0 c4_2_1
   obtain ⟨c4_0_0, c4_0_1⟩ := (bo1 K4).c2
   obtain ⟨c4_1_0, c4_1_1⟩ := (bo2 K4).c2
   obtain ⟨z4_1_0, z4_1_1⟩ := (bo2 K4).f2
   obtain ⟨c4_2_0, c4_2_1⟩ := (bo3 K4).c2
   have XF : Hid (Bx (wc.setCells (w.heap.size + 2) 0 [vi ki 0, vi ki V]) (w.heap.size + 2) [vi ki 0, vi ki V]) := (K4.out.at (w.heap.size + 2) [vi ki 0, vi ki 0] (by simp)).setAll _ rfl
   have BF : Hid (Below w.heap.size w (wc.setCells (w.heap.size + 2) 0 [vi ki 0, vi ki V])) := below_setCells (by omega) _ _ _ K4.out.1
   have y0 := XF.out.c 0 rfl
   have y1 := XF.out.c 1 rfl
   simp only [World.setCells, Nat.zero_add] at y0 y1
   clear XF
   go_wp2
   exact bodyPost_ret (v := .tuple #[.agg #[vi ki 0, vi ki V], vi ki how, vi ki 0]) (by simp [results, Tryz.results12, go_sem, y0, y1]) rfl ⟨rfl, BF.out⟩
theorem mb_err2 (Ok : World → Prop) (T : List Value) (hT : T.length = 25) (u j M D U V1 V2 e : Int) (he : e ≠ 0)
  (LO : Hid (∀ w : World, Ok w → Calls Tryz.prog 10 #[.agg T.toArray, .agg #[vi ki 0, vi ki u]] w fun r' w' => r' = zr (.tuple #[.agg #[vi ki 0, vi ki V1], vi ki 0]) ∧ Below w.heap.size w w'))
  (AD : Hid (∀ w : World, Ok w → Calls Tryz.prog 17 #[.agg #[vi ki 0, vi ki V1], .agg #[vi ki 0, vi ki M, vi ki D, vi ki 0]] w fun r' w' => r' = zr (.tuple #[.agg #[vi ki 0, vi ki V2], vi ki e]) ∧ Below w.heap.size w w'))
  (w : World) (hL : Hid (∀ W : World, Below w.heap.size w W → Ok W)) :
  Calls Tryz.prog 52 #[.agg T.toArray, .agg #[vi ki 0, vi ki u], .agg #[vi ki j, vi ki M, vi ki D, vi ki U]] w fun r' w' => r' = zr (.tuple #[.agg #[vi ki 0, vi ki 0], vi ki e]) ∧ Below w.heap.size w w' := by
 have e1 : (e != 0) = true := bne_iff_ne.2 he
 have K0 := bsn4 w T 44 [vi ki 0, vi ki u] 36 [vi ki j, vi ki M, vi ki D, vi ki U] 59 [vi ki 0, vi ki 0] 36
 go_enter Tryz.func52, Tryz.ntmps52
 generalize hUA : T.toArray = UA at *
 go_upto_region 1 with fail
 refine gen_to (BS w [(w.heap.size + 3, [vi ki 0, vi ki 0]), (w.heap.size + 2, [vi ki j, vi ki M, vi ki D, vi ki U]), (w.heap.size + 1, [vi ki 0, vi ki u]), (w.heap.size, T)]) K0.out ?_
 clear K0
 intro W0 K0'
 have K0 : Hid (BS w [(w.heap.size + 3, [vi ki 0, vi ki 0]), (w.heap.size + 2, [vi ki j, vi ki M, vi ki D, vi ki U]), (w.heap.size + 1, [vi ki 0, vi ki u]), (w.heap.size, T)] W0) := K0'
 clear K0'
 obtain ⟨c0_0_0, c0_0_1⟩ := (bo1 K0).c2
 obtain ⟨c0_1_0, c0_1_1, c0_1_2, c0_1_3⟩ := (bo2 K0).c4
 obtain ⟨c0_2_0, c0_2_1⟩ := (bo3 K0).c2
 go_wp2_with (first | (refine wpList_load_mid rfl 44 _ rfl (w.heap.size) 0 rfl T _ (K0.out.at (w.heap.size) T (by simp)).all Tryz.underlying44 rfl (by rw [hT]; kernel_rfl) ?_; rw [hUA]) | fail)
 refine (LO.out _ (hL.out _ K0.out.1)).mono ?_
 rintro e W1 ⟨rfl, hb⟩
 have K1 := bsb K0 hb
 clear c0_0_0 c0_0_1 c0_1_0 c0_1_1 c0_1_2 c0_1_3 c0_2_0 c0_2_1
 clear hb K0
 obtain ⟨c1_0_0, c1_0_1⟩ := (bo1 K1).c2
 obtain ⟨c1_1_0, c1_1_1, c1_1_2, c1_1_3⟩ := (bo2 K1).c4
 obtain ⟨c1_2_0, c1_2_1⟩ := (bo3 K1).c2
 have Mz1 := bsn K1 [vi ki 0, vi ki V1] 36
 have lt1_0 := (bo1 K1).1
 have lt1_1 := (bo2 K1).1
 have lt1_2 := (bo3 K1).1
 have lt1_3 := (bo4 K1).1
 go_upto_region 2 with fail
 refine bs_to Mz1 ?_
 clear c1_0_0 c1_0_1 c1_1_0 c1_1_1 c1_1_2 c1_1_3 c1_2_0 c1_2_1
 intro W2 K2
 clear Mz1 K1
 obtain ⟨c2_0_0, c2_0_1⟩ := (bo1 K2).c2
 obtain ⟨c2_1_0, c2_1_1⟩ := (bo2 K2).c2
 obtain ⟨c2_2_0, c2_2_1, c2_2_2, c2_2_3⟩ := (bo3 K2).c4
 obtain ⟨c2_3_0, c2_3_1⟩ := (bo4 K2).c2
 go_wp2_with (first | (refine wpList_load_mid rfl 44 _ rfl (w.heap.size) 0 rfl T _ (K2.out.at (w.heap.size) T (by simp)).all Tryz.underlying44 rfl (by rw [hT]; kernel_rfl) ?_; rw [hUA]) | fail)
 refine (AD.out _ (hL.out _ K2.out.1)).mono ?_
 rintro e W3 ⟨rfl, hb⟩
 have K3 := bsb K2 hb
 clear c2_0_0 c2_0_1 c2_1_0 c2_1_1 c2_2_0 c2_2_1 c2_2_2 c2_2_3 c2_3_0 c2_3_1
 clear hb K2
 obtain ⟨c3_0_0, c3_0_1⟩ := (bo1 K3).c2
 obtain ⟨c3_1_0, c3_1_1⟩ := (bo2 K3).c2
 obtain ⟨c3_2_0, c3_2_1, c3_2_2, c3_2_3⟩ := (bo3 K3).c4
 obtain ⟨c3_3_0, c3_3_1⟩ := (bo4 K3).c2
 clear c3_0_0 c3_0_1 c3_1_0 c3_1_1 c3_2_0 c3_2_1 c3_2_2 c3_2_3 c3_3_0 c3_3_1
 have r3_0 : W3.cell? ⟨W1.heap.size, 0, none⟩ = some (vi ki 0) := (K3.out.at (W1.heap.size) [vi ki 0, vi ki V1] (by simp)).c 0 rfl
 have sr3_0 : W3.frozen? ⟨W1.heap.size, 0, none⟩ = false := (K3.out.at (W1.heap.size) [vi ki 0, vi ki V1] (by simp)).f 0 rfl
 have r3_1 : W3.cell? ⟨W1.heap.size, 1, none⟩ = some (vi ki V1) := (K3.out.at (W1.heap.size) [vi ki 0, vi ki V1] (by simp)).c 1 rfl
 have sr3_1 : W3.frozen? ⟨W1.heap.size, 1, none⟩ = false := (K3.out.at (W1.heap.size) [vi ki 0, vi ki V1] (by simp)).f 1 rfl
 have Mz3 : Hid (BS w [(W1.heap.size, [vi ki 0, vi ki V2]), (w.heap.size + 3, [vi ki 0, vi ki 0]), (w.heap.size + 2, [vi ki j, vi ki M, vi ki D, vi ki U]), (w.heap.size + 1, [vi ki 0, vi ki u]), (w.heap.size, T)] (W3.setCells (W1.heap.size) 0 [vi ki 0, vi ki V2])) := ((K3.out.perm (l' := [(W1.heap.size, [vi ki 0, vi ki V1]), (w.heap.size + 3, [vi ki 0, vi ki 0]), (w.heap.size + 2, [vi ki j, vi ki M, vi ki D, vi ki U]), (w.heap.size + 1, [vi ki 0, vi ki u]), (w.heap.size, T)]) (by intro x hx; simp only [List.mem_cons, List.not_mem_nil, or_false] at hx ⊢; rcases hx with h | h | h | h | h <;> simp [h])).set [vi ki 0, vi ki V2] rfl (by intro x hx; simp only [List.mem_cons, List.not_mem_nil, or_false] at hx; rcases hx with rfl | rfl | rfl | rfl <;> simp only [] <;> omega))
 simp only [World.setCells, Nat.zero_add] at Mz3
 go_upto_region 5 with fail
 refine gen_to (BS w [(W1.heap.size, [vi ki 0, vi ki V2]), (w.heap.size + 3, [vi ki 0, vi ki 0]), (w.heap.size + 2, [vi ki j, vi ki M, vi ki D, vi ki U]), (w.heap.size + 1, [vi ki 0, vi ki u]), (w.heap.size, T)]) Mz3.out ?_
 clear r3_0 sr3_0 r3_1 sr3_1
 intro W4 K4'
 have K4 : Hid (BS w [(W1.heap.size, [vi ki 0, vi ki V2]), (w.heap.size + 3, [vi ki 0, vi ki 0]), (w.heap.size + 2, [vi ki j, vi ki M, vi ki D, vi ki U]), (w.heap.size + 1, [vi ki 0, vi ki u]), (w.heap.size, T)] W4) := K4'
 clear K4' Mz3 K3
 obtain ⟨c4_0_0, c4_0_1⟩ := (bo1 K4).c2
 obtain ⟨c4_1_0, c4_1_1⟩ := (bo2 K4).c2
 obtain ⟨z4_1_0, z4_1_1⟩ := (bo2 K4).f2
 obtain ⟨c4_2_0, c4_2_1, c4_2_2, c4_2_3⟩ := (bo3 K4).c4
 obtain ⟨c4_3_0, c4_3_1⟩ := (bo4 K4).c2
 have XF : Hid (Bx (W4.setCells (w.heap.size + 3) 0 [vi ki 0, vi ki 0]) (w.heap.size + 3) [vi ki 0, vi ki 0]) := (K4.out.at (w.heap.size + 3) [vi ki 0, vi ki 0] (by simp)).setAll _ rfl
 have BF : Hid (Below w.heap.size w (W4.setCells (w.heap.size + 3) 0 [vi ki 0, vi ki 0])) := below_setCells (by omega) _ _ _ K4.out.1
 have y0 := XF.out.c 0 rfl
 have y1 := XF.out.c 1 rfl
 simp only [World.setCells, Nat.zero_add] at y0 y1
 clear XF
 go_wp2
 exact bodyPost_ret (v := .tuple #[.agg #[vi ki 0, vi ki 0], vi ki e]) (by simp [results, Tryz.results52, go_sem, y0, y1]) rfl ⟨rfl, BF.out⟩
theorem mb_ok (Ok : World → Prop) (T : List Value) (hT : T.length = 25) (u j M D U V1 V2 V3 how e3 : Int)
  (LO : Hid (∀ w : World, Ok w → Calls Tryz.prog 10 #[.agg T.toArray, .agg #[vi ki 0, vi ki u]] w fun r' w' => r' = zr (.tuple #[.agg #[vi ki 0, vi ki V1], vi ki 0]) ∧ Below w.heap.size w w'))
  (AD : Hid (∀ w : World, Ok w → Calls Tryz.prog 17 #[.agg #[vi ki 0, vi ki V1], .agg #[vi ki 0, vi ki M, vi ki D, vi ki 0]] w fun r' w' => r' = zr (.tuple #[.agg #[vi ki 0, vi ki V2], vi ki 0]) ∧ Below w.heap.size w w'))
  (IN : Hid (∀ w : World, Ok w → Calls Tryz.prog 12 #[.agg T.toArray, .agg #[vi ki 0, vi ki V2]] w fun r' w' => r' = zr (.tuple #[.agg #[vi ki 0, vi ki V3], vi ki how, vi ki e3]) ∧ Below w.heap.size w w'))
  (w : World) (hL : Hid (∀ W : World, Below w.heap.size w W → Ok W)) :
  Calls Tryz.prog 52 #[.agg T.toArray, .agg #[vi ki 0, vi ki u], .agg #[vi ki j, vi ki M, vi ki D, vi ki U]] w fun r' w' => r' = zr (.tuple #[.agg #[vi ki 0, vi ki V3], vi ki e3]) ∧ Below w.heap.size w w' := by
 have K0 := bsn4 w T 44 [vi ki 0, vi ki u] 36 [vi ki j, vi ki M, vi ki D, vi ki U] 59 [vi ki 0, vi ki 0] 36
 go_enter Tryz.func52, Tryz.ntmps52
 generalize hUA : T.toArray = UA at *
 go_upto_region 1 with fail
 refine gen_to (BS w [(w.heap.size + 3, [vi ki 0, vi ki 0]), (w.heap.size + 2, [vi ki j, vi ki M, vi ki D, vi ki U]), (w.heap.size + 1, [vi ki 0, vi ki u]), (w.heap.size, T)]) K0.out ?_
 clear K0
 intro W0 K0'
 have K0 : Hid (BS w [(w.heap.size + 3, [vi ki 0, vi ki 0]), (w.heap.size + 2, [vi ki j, vi ki M, vi ki D, vi ki U]), (w.heap.size + 1, [vi ki 0, vi ki u]), (w.heap.size, T)] W0) := K0'
 clear K0'
 obtain ⟨c0_0_0, c0_0_1⟩ := (bo1 K0).c2
 obtain ⟨c0_1_0, c0_1_1, c0_1_2, c0_1_3⟩ := (bo2 K0).c4
 obtain ⟨c0_2_0, c0_2_1⟩ := (bo3 K0).c2
 go_wp2_with (first | (refine wpList_load_mid rfl 44 _ rfl (w.heap.size) 0 rfl T _ (K0.out.at (w.heap.size) T (by simp)).all Tryz.underlying44 rfl (by rw [hT]; kernel_rfl) ?_; rw [hUA]) | fail)
 refine (LO.out _ (hL.out _ K0.out.1)).mono ?_
 rintro e W1 ⟨rfl, hb⟩
 have K1 := bsb K0 hb
 clear c0_0_0 c0_0_1 c0_1_0 c0_1_1 c0_1_2 c0_1_3 c0_2_0 c0_2_1
 clear hb K0
 obtain ⟨c1_0_0, c1_0_1⟩ := (bo1 K1).c2
 obtain ⟨c1_1_0, c1_1_1, c1_1_2, c1_1_3⟩ := (bo2 K1).c4
 obtain ⟨c1_2_0, c1_2_1⟩ := (bo3 K1).c2
 have Mz1 := bsn K1 [vi ki 0, vi ki V1] 36
 have lt1_0 := (bo1 K1).1
 have lt1_1 := (bo2 K1).1
 have lt1_2 := (bo3 K1).1
 have lt1_3 := (bo4 K1).1
 go_upto_region 2 with fail
 refine bs_to Mz1 ?_
 clear c1_0_0 c1_0_1 c1_1_0 c1_1_1 c1_1_2 c1_1_3 c1_2_0 c1_2_1
 intro W2 K2
 clear Mz1 K1
 obtain ⟨c2_0_0, c2_0_1⟩ := (bo1 K2).c2
 obtain ⟨c2_1_0, c2_1_1⟩ := (bo2 K2).c2
 obtain ⟨c2_2_0, c2_2_1, c2_2_2, c2_2_3⟩ := (bo3 K2).c4
 obtain ⟨c2_3_0, c2_3_1⟩ := (bo4 K2).c2
 go_wp2_with (first | (refine wpList_load_mid rfl 44 _ rfl (w.heap.size) 0 rfl T _ (K2.out.at (w.heap.size) T (by simp)).all Tryz.underlying44 rfl (by rw [hT]; kernel_rfl) ?_; rw [hUA]) | fail)
 refine (AD.out _ (hL.out _ K2.out.1)).mono ?_
 rintro e W3 ⟨rfl, hb⟩
 have K3 := bsb K2 hb
 clear c2_0_0 c2_0_1 c2_1_0 c2_1_1 c2_2_0 c2_2_1 c2_2_2 c2_2_3 c2_3_0 c2_3_1
 clear hb K2
 obtain ⟨c3_0_0, c3_0_1⟩ := (bo1 K3).c2
 obtain ⟨c3_1_0, c3_1_1⟩ := (bo2 K3).c2
 obtain ⟨c3_2_0, c3_2_1, c3_2_2, c3_2_3⟩ := (bo3 K3).c4
 obtain ⟨c3_3_0, c3_3_1⟩ := (bo4 K3).c2
 clear c3_0_0 c3_0_1 c3_1_0 c3_1_1 c3_2_0 c3_2_1 c3_2_2 c3_2_3 c3_3_0 c3_3_1
 have r3_0 : W3.cell? ⟨W1.heap.size, 0, none⟩ = some (vi ki 0) := (K3.out.at (W1.heap.size) [vi ki 0, vi ki V1] (by simp)).c 0 rfl
 have sr3_0 : W3.frozen? ⟨W1.heap.size, 0, none⟩ = false := (K3.out.at (W1.heap.size) [vi ki 0, vi ki V1] (by simp)).f 0 rfl
 have r3_1 : W3.cell? ⟨W1.heap.size, 1, none⟩ = some (vi ki V1) := (K3.out.at (W1.heap.size) [vi ki 0, vi ki V1] (by simp)).c 1 rfl
 have sr3_1 : W3.frozen? ⟨W1.heap.size, 1, none⟩ = false := (K3.out.at (W1.heap.size) [vi ki 0, vi ki V1] (by simp)).f 1 rfl
 have Mz3 : Hid (BS w [(W1.heap.size, [vi ki 0, vi ki V2]), (w.heap.size + 3, [vi ki 0, vi ki 0]), (w.heap.size + 2, [vi ki j, vi ki M, vi ki D, vi ki U]), (w.heap.size + 1, [vi ki 0, vi ki u]), (w.heap.size, T)] (W3.setCells (W1.heap.size) 0 [vi ki 0, vi ki V2])) := ((K3.out.perm (l' := [(W1.heap.size, [vi ki 0, vi ki V1]), (w.heap.size + 3, [vi ki 0, vi ki 0]), (w.heap.size + 2, [vi ki j, vi ki M, vi ki D, vi ki U]), (w.heap.size + 1, [vi ki 0, vi ki u]), (w.heap.size, T)]) (by intro x hx; simp only [List.mem_cons, List.not_mem_nil, or_false] at hx ⊢; rcases hx with h | h | h | h | h <;> simp [h])).set [vi ki 0, vi ki V2] rfl (by intro x hx; simp only [List.mem_cons, List.not_mem_nil, or_false] at hx; rcases hx with rfl | rfl | rfl | rfl <;> simp only [] <;> omega))
 simp only [World.setCells, Nat.zero_add] at Mz3
 go_upto_region 5 with fail
 refine gen_to (BS w [(W1.heap.size, [vi ki 0, vi ki V2]), (w.heap.size + 3, [vi ki 0, vi ki 0]), (w.heap.size + 2, [vi ki j, vi ki M, vi ki D, vi ki U]), (w.heap.size + 1, [vi ki 0, vi ki u]), (w.heap.size, T)]) Mz3.out ?_
 clear r3_0 sr3_0 r3_1 sr3_1
 intro W4 K4'
 have K4 : Hid (BS w [(W1.heap.size, [vi ki 0, vi ki V2]), (w.heap.size + 3, [vi ki 0, vi ki 0]), (w.heap.size + 2, [vi ki j, vi ki M, vi ki D, vi ki U]), (w.heap.size + 1, [vi ki 0, vi ki u]), (w.heap.size, T)] W4) := K4'
 clear K4' Mz3 K3
 obtain ⟨c4_0_0, c4_0_1⟩ := (bo1 K4).c2
 obtain ⟨c4_1_0, c4_1_1⟩ := (bo2 K4).c2
 obtain ⟨c4_2_0, c4_2_1, c4_2_2, c4_2_3⟩ := (bo3 K4).c4
 obtain ⟨c4_3_0, c4_3_1⟩ := (bo4 K4).c2
 go_wp2_with (first | (refine wpList_load_mid rfl 44 _ rfl (w.heap.size) 0 rfl T _ (K4.out.at (w.heap.size) T (by simp)).all Tryz.underlying44 rfl (by rw [hT]; kernel_rfl) ?_; rw [hUA]) | fail)
 refine (IN.out _ (hL.out _ K4.out.1)).mono ?_
 rintro e W5 ⟨rfl, hb⟩
 have K5 := bsb K4 hb
 clear c4_0_0 c4_0_1 c4_1_0 c4_1_1 c4_2_0 c4_2_1 c4_2_2 c4_2_3 c4_3_0 c4_3_1
 clear hb K4
 obtain ⟨c5_0_0, c5_0_1⟩ := (bo1 K5).c2
 obtain ⟨c5_1_0, c5_1_1⟩ := (bo2 K5).c2
 obtain ⟨c5_2_0, c5_2_1, c5_2_2, c5_2_3⟩ := (bo3 K5).c4
 obtain ⟨c5_3_0, c5_3_1⟩ := (bo4 K5).c2
 clear c5_0_0 c5_0_1 c5_1_0 c5_1_1 c5_2_0 c5_2_1 c5_2_2 c5_2_3 c5_3_0 c5_3_1
 have r5_0 : W5.cell? ⟨w.heap.size + 1, 0, none⟩ = some (vi ki 0) := (K5.out.at (w.heap.size + 1) [vi ki 0, vi ki u] (by simp)).c 0 rfl
 have sr5_0 : W5.frozen? ⟨w.heap.size + 1, 0, none⟩ = false := (K5.out.at (w.heap.size + 1) [vi ki 0, vi ki u] (by simp)).f 0 rfl
 have r5_1 : W5.cell? ⟨w.heap.size + 1, 1, none⟩ = some (vi ki u) := (K5.out.at (w.heap.size + 1) [vi ki 0, vi ki u] (by simp)).c 1 rfl
 have sr5_1 : W5.frozen? ⟨w.heap.size + 1, 1, none⟩ = false := (K5.out.at (w.heap.size + 1) [vi ki 0, vi ki u] (by simp)).f 1 rfl
 have Mz5 : Hid (BS w [(w.heap.size + 1, [vi ki 0, vi ki V3]), (W1.heap.size, [vi ki 0, vi ki V2]), (w.heap.size + 3, [vi ki 0, vi ki 0]), (w.heap.size + 2, [vi ki j, vi ki M, vi ki D, vi ki U]), (w.heap.size, T)] (W5.setCells (w.heap.size + 1) 0 [vi ki 0, vi ki V3])) := ((K5.out.perm (l' := [(w.heap.size + 1, [vi ki 0, vi ki u]), (W1.heap.size, [vi ki 0, vi ki V2]), (w.heap.size + 3, [vi ki 0, vi ki 0]), (w.heap.size + 2, [vi ki j, vi ki M, vi ki D, vi ki U]), (w.heap.size, T)]) (by intro x hx; simp only [List.mem_cons, List.not_mem_nil, or_false] at hx ⊢; rcases hx with h | h | h | h | h <;> simp [h])).set [vi ki 0, vi ki V3] rfl (by intro x hx; simp only [List.mem_cons, List.not_mem_nil, or_false] at hx; rcases hx with rfl | rfl | rfl | rfl <;> simp only [] <;> omega))
 simp only [World.setCells, Nat.zero_add] at Mz5
 go_upto_region 8 with fail
 refine gen_to (BS w [(w.heap.size + 1, [vi ki 0, vi ki V3]), (W1.heap.size, [vi ki 0, vi ki V2]), (w.heap.size + 3, [vi ki 0, vi ki 0]), (w.heap.size + 2, [vi ki j, vi ki M, vi ki D, vi ki U]), (w.heap.size, T)]) Mz5.out ?_
 clear r5_0 sr5_0 r5_1 sr5_1
 intro W6 K6'
 have K6 : Hid (BS w [(w.heap.size + 1, [vi ki 0, vi ki V3]), (W1.heap.size, [vi ki 0, vi ki V2]), (w.heap.size + 3, [vi ki 0, vi ki 0]), (w.heap.size + 2, [vi ki j, vi ki M, vi ki D, vi ki U]), (w.heap.size, T)] W6) := K6'
 clear K6' Mz5 K5
 obtain ⟨c6_0_0, c6_0_1⟩ := (bo1 K6).c2
 obtain ⟨c6_1_0, c6_1_1⟩ := (bo2 K6).c2
 obtain ⟨c6_2_0, c6_2_1⟩ := (bo3 K6).c2
 obtain ⟨z6_2_0, z6_2_1⟩ := (bo3 K6).f2
 obtain ⟨c6_3_0, c6_3_1, c6_3_2, c6_3_3⟩ := (bo4 K6).c4
 have XF : Hid (Bx (W6.setCells (w.heap.size + 3) 0 [vi ki 0, vi ki V3]) (w.heap.size + 3) [vi ki 0, vi ki V3]) := (K6.out.at (w.heap.size + 3) [vi ki 0, vi ki 0] (by simp)).setAll _ rfl
 have BF : Hid (Below w.heap.size w (W6.setCells (w.heap.size + 3) 0 [vi ki 0, vi ki V3])) := below_setCells (by omega) _ _ _ K6.out.1
 have y0 := XF.out.c 0 rfl
 have y1 := XF.out.c 1 rfl
 simp only [World.setCells, Nat.zero_add] at y0 y1
 clear XF
 go_wp2
 exact bodyPost_ret (v := .tuple #[.agg #[vi ki 0, vi ki V3], vi ki e3]) (by simp [results, Tryz.results52, go_sem, y0, y1]) rfl ⟨rfl, BF.out⟩
theorem az_no2 (Ok : World → Prop) (T : List Value) (hT : T.length = 25) (i u j m d n : Int)
  (RT : Hid (∀ w : World, Ok w → Calls Tryz.prog 31 #[.agg T.toArray] w fun r' w' => r' = zr (.bool true) ∧ Below w.heap.size w w'))
  (R : Hid (∀ w : World, Ok w → Calls Tryz.prog 32 #[.agg #[vi ki i, vi ki u]] w fun r' w' => r' = zr (.bool false) ∧ Below w.heap.size w w'))
  (w : World) (hL : Hid (∀ W : World, Below w.heap.size w W → Ok W)) :
  Calls Tryz.prog 19 #[.agg T.toArray, .agg #[vi ki i, vi ki u], .agg #[vi ki j, vi ki m, vi ki d, vi ki n]] w fun r' w' => r' = zr (.tuple #[.agg #[vi ki 0, vi ki 0], vi ki 1]) ∧ Below w.heap.size w w' := by
 have K0 := bsn4 w T 44 [vi ki i, vi ki u] 36 [vi ki j, vi ki m, vi ki d, vi ki n] 59 [vi ki 0, vi ki 0] 36
 go_enter Tryz.func19, Tryz.ntmps19
 generalize hUA : T.toArray = UA at *
 go_upto_region 1 with fail
 refine gen_to (BS w [(w.heap.size + 3, [vi ki 0, vi ki 0]), (w.heap.size + 2, [vi ki j, vi ki m, vi ki d, vi ki n]), (w.heap.size + 1, [vi ki i, vi ki u]), (w.heap.size, T)]) K0.out ?_
 clear K0
 intro W0 K0'
 have K0 : Hid (BS w [(w.heap.size + 3, [vi ki 0, vi ki 0]), (w.heap.size + 2, [vi ki j, vi ki m, vi ki d, vi ki n]), (w.heap.size + 1, [vi ki i, vi ki u]), (w.heap.size, T)] W0) := K0'
 clear K0'
 obtain ⟨c0_0_0, c0_0_1⟩ := (bo1 K0).c2
 obtain ⟨c0_1_0, c0_1_1, c0_1_2, c0_1_3⟩ := (bo2 K0).c4
 obtain ⟨c0_2_0, c0_2_1⟩ := (bo3 K0).c2
 go_wp2_with (first | (refine wpList_load_mid rfl 44 _ rfl (w.heap.size) 0 rfl T _ (K0.out.at (w.heap.size) T (by simp)).all Tryz.underlying44 rfl (by rw [hT]; kernel_rfl) ?_; rw [hUA]) | fail)
 refine (RT.out _ (hL.out _ K0.out.1)).mono ?_
 rintro e W1 ⟨rfl, hb⟩
 have K1 := bsb K0 hb
 clear c0_0_0 c0_0_1 c0_1_0 c0_1_1 c0_1_2 c0_1_3 c0_2_0 c0_2_1
 clear hb K0
 obtain ⟨c1_0_0, c1_0_1⟩ := (bo1 K1).c2
 obtain ⟨c1_1_0, c1_1_1, c1_1_2, c1_1_3⟩ := (bo2 K1).c4
 obtain ⟨c1_2_0, c1_2_1⟩ := (bo3 K1).c2
 go_wp2_with (first | (refine wpList_load_mid rfl 44 _ rfl (w.heap.size) 0 rfl T _ (K1.out.at (w.heap.size) T (by simp)).all Tryz.underlying44 rfl (by rw [hT]; kernel_rfl) ?_; rw [hUA]) | fail)
 refine (R.out _ (hL.out _ K1.out.1)).mono ?_
 rintro e W2 ⟨rfl, hb⟩
 have K2 := bsb K1 hb
 clear c1_0_0 c1_0_1 c1_1_0 c1_1_1 c1_1_2 c1_1_3 c1_2_0 c1_2_1
 clear hb K1
 obtain ⟨c2_0_0, c2_0_1⟩ := (bo1 K2).c2
 obtain ⟨z2_0_0, z2_0_1⟩ := (bo1 K2).f2
 obtain ⟨c2_1_0, c2_1_1, c2_1_2, c2_1_3⟩ := (bo2 K2).c4
 obtain ⟨c2_2_0, c2_2_1⟩ := (bo3 K2).c2
 have XF : Hid (Bx (W2.setCells (w.heap.size + 3) 0 [vi ki 0, vi ki 0]) (w.heap.size + 3) [vi ki 0, vi ki 0]) := (K2.out.at (w.heap.size + 3) [vi ki 0, vi ki 0] (by simp)).setAll _ rfl
 have BF : Hid (Below w.heap.size w (W2.setCells (w.heap.size + 3) 0 [vi ki 0, vi ki 0])) := below_setCells (by omega) _ _ _ K2.out.1
 have y0 := XF.out.c 0 rfl
 have y1 := XF.out.c 1 rfl
 simp only [World.setCells, Nat.zero_add] at y0 y1
 clear XF
 go_wp2
 exact bodyPost_ret (v := .tuple #[.agg #[vi ki 0, vi ki 0], vi ki 1]) (by simp [results, Tryz.results19, go_sem, y0, y1]) rfl ⟨rfl, BF.out⟩
theorem az_infi (Ok : World → Prop) (T : List Value) (hT : T.length = 25) (i u j m d n I E : Int) (ka kb : Value) (h : I ≠ 0)
  (RT : Hid (∀ w : World, Ok w → Calls Tryz.prog 31 #[.agg T.toArray] w fun r' w' => r' = zr (.bool true) ∧ Below w.heap.size w w'))
  (R : Hid (∀ w : World, Ok w → Calls Tryz.prog 32 #[.agg #[vi ki i, vi ki u]] w fun r' w' => r' = zr (.bool true) ∧ Below w.heap.size w w'))
  (PR : Hid (∀ w : World, Calls Tryz.prog 23 #[.agg #[vi ki j, vi ki m, vi ki d, vi ki n]] w fun r' w' => r' = zr (.bool true) ∧ Below w.heap.size w w'))
  (KA : Hid (∀ w : World, Calls Tryz.prog 46 #[vi ki i] w fun r' w' => r' = zr (ka) ∧ Below w.heap.size w w'))
  (KB : Hid (∀ w : World, Calls Tryz.prog 46 #[vi ki j] w fun r' w' => r' = zr (kb) ∧ Below w.heap.size w w'))
  (TG : Hid (∀ w : World, Calls Tryz.prog 45 #[ka, kb] w fun r' w' => r' = zr (.tuple #[vi ki I, vi ki E]) ∧ Below w.heap.size w w'))
  (w : World) (hL : Hid (∀ W : World, Below w.heap.size w W → Ok W)) :
  Calls Tryz.prog 19 #[.agg T.toArray, .agg #[vi ki i, vi ki u], .agg #[vi ki j, vi ki m, vi ki d, vi ki n]] w fun r' w' => r' = zr (.tuple #[.agg #[vi ki I, vi ki 0], vi ki E]) ∧ Below w.heap.size w w' := by
 have h1 : (I != 0) = true := bne_iff_ne.2 h
 have K0 := bsn4 w T 44 [vi ki i, vi ki u] 36 [vi ki j, vi ki m, vi ki d, vi ki n] 59 [vi ki 0, vi ki 0] 36
 go_enter Tryz.func19, Tryz.ntmps19
 generalize hUA : T.toArray = UA at *
 go_upto_region 1 with fail
 refine gen_to (BS w [(w.heap.size + 3, [vi ki 0, vi ki 0]), (w.heap.size + 2, [vi ki j, vi ki m, vi ki d, vi ki n]), (w.heap.size + 1, [vi ki i, vi ki u]), (w.heap.size, T)]) K0.out ?_
 clear K0
 intro W0 K0'
 have K0 : Hid (BS w [(w.heap.size + 3, [vi ki 0, vi ki 0]), (w.heap.size + 2, [vi ki j, vi ki m, vi ki d, vi ki n]), (w.heap.size + 1, [vi ki i, vi ki u]), (w.heap.size, T)] W0) := K0'
 clear K0'
 obtain ⟨c0_0_0, c0_0_1⟩ := (bo1 K0).c2
 obtain ⟨c0_1_0, c0_1_1, c0_1_2, c0_1_3⟩ := (bo2 K0).c4
 obtain ⟨c0_2_0, c0_2_1⟩ := (bo3 K0).c2
 go_wp2_with (first | (refine wpList_load_mid rfl 44 _ rfl (w.heap.size) 0 rfl T _ (K0.out.at (w.heap.size) T (by simp)).all Tryz.underlying44 rfl (by rw [hT]; kernel_rfl) ?_; rw [hUA]) | fail)
 refine (RT.out _ (hL.out _ K0.out.1)).mono ?_
 rintro e W1 ⟨rfl, hb⟩
 have K1 := bsb K0 hb
 clear c0_0_0 c0_0_1 c0_1_0 c0_1_1 c0_1_2 c0_1_3 c0_2_0 c0_2_1
 clear hb K0
 obtain ⟨c1_0_0, c1_0_1⟩ := (bo1 K1).c2
 obtain ⟨c1_1_0, c1_1_1, c1_1_2, c1_1_3⟩ := (bo2 K1).c4
 obtain ⟨c1_2_0, c1_2_1⟩ := (bo3 K1).c2
 go_wp2_with (first | (refine wpList_load_mid rfl 44 _ rfl (w.heap.size) 0 rfl T _ (K1.out.at (w.heap.size) T (by simp)).all Tryz.underlying44 rfl (by rw [hT]; kernel_rfl) ?_; rw [hUA]) | fail)
 refine (R.out _ (hL.out _ K1.out.1)).mono ?_
 rintro e W2 ⟨rfl, hb⟩
 have K2 := bsb K1 hb
 clear c1_0_0 c1_0_1 c1_1_0 c1_1_1 c1_1_2 c1_1_3 c1_2_0 c1_2_1
 clear hb K1
 obtain ⟨c2_0_0, c2_0_1⟩ := (bo1 K2).c2
 obtain ⟨c2_1_0, c2_1_1, c2_1_2, c2_1_3⟩ := (bo2 K2).c4
 obtain ⟨c2_2_0, c2_2_1⟩ := (bo3 K2).c2
 go_wp2_with (first | (refine wpList_load_mid rfl 44 _ rfl (w.heap.size) 0 rfl T _ (K2.out.at (w.heap.size) T (by simp)).all Tryz.underlying44 rfl (by rw [hT]; kernel_rfl) ?_; rw [hUA]) | fail)
 refine (PR.out _).mono ?_
 rintro e W3 ⟨rfl, hb⟩
 have K3 := bsb K2 hb
 clear c2_0_0 c2_0_1 c2_1_0 c2_1_1 c2_1_2 c2_1_3 c2_2_0 c2_2_1
 clear hb K2
 obtain ⟨c3_0_0, c3_0_1⟩ := (bo1 K3).c2
 obtain ⟨c3_1_0, c3_1_1, c3_1_2, c3_1_3⟩ := (bo2 K3).c4
 obtain ⟨c3_2_0, c3_2_1⟩ := (bo3 K3).c2
 go_wp2_with fail
 go_cut [8, 9] (fun v0 v1 wx => v0 = vi ki I ∧ v1 = vi ki E ∧ Hid (BS w [(w.heap.size + 3, [vi ki 0, vi ki 0]), (w.heap.size + 2, [vi ki j, vi ki m, vi ki d, vi ki n]), (w.heap.size + 1, [vi ki i, vi ki u]), (w.heap.size, T)] wx))
 case first =>
  refine wp_region_held_drew (S := BS w [(w.heap.size + 3, [vi ki 0, vi ki 0]), (w.heap.size + 2, [vi ki j, vi ki m, vi ki d, vi ki n]), (w.heap.size + 1, [vi ki i, vi ki u]), (w.heap.size, T)]) (by kernel_rfl) K3.out.drew (fun hHeld => ?_)
  refine tks 0 ⟨some 27, _, _, _, _, none⟩ rfl ?_
  simp only [za, zb, zc, zd]
  refine tk (v := ?_) 1 ⟨some 28, _, _, _, _, none⟩ rfl ?_ ?_
  case refine_2 => (intro w9 hSw; obtain ⟨l0_0, l0_1⟩ := (hSw.at (w.heap.size + 3) [vi ki 0, vi ki 0] (by simp)).c2; obtain ⟨l1_0, l1_1, l1_2, l1_3⟩ := (hSw.at (w.heap.size + 2) [vi ki j, vi ki m, vi ki d, vi ki n] (by simp)).c4; obtain ⟨l2_0, l2_1⟩ := (hSw.at (w.heap.size + 1) [vi ki i, vi ki u] (by simp)).c2; clear hSw; go_simp; try with_reducible rfl)
  simp only [za, zb, zc, zd]
  refine tks 3 ⟨some 30, _, _, _, _, none⟩ rfl ?_
  simp only [za, zb, zc, zd]
  refine tk (v := ?_) 4 ⟨some 31, _, _, _, _, none⟩ rfl ?_ ?_
  case refine_2 => (intro w9 hSw; obtain ⟨l0_0, l0_1⟩ := (hSw.at (w.heap.size + 3) [vi ki 0, vi ki 0] (by simp)).c2; obtain ⟨l1_0, l1_1, l1_2, l1_3⟩ := (hSw.at (w.heap.size + 2) [vi ki j, vi ki m, vi ki d, vi ki n] (by simp)).c4; obtain ⟨l2_0, l2_1⟩ := (hSw.at (w.heap.size + 1) [vi ki i, vi ki u] (by simp)).c2; clear hSw; go_simp; try with_reducible rfl)
  simp only [za, zb, zc, zd]
  refine rd 2 ⟨some 29, _, _, _, _, none⟩ rfl (fun K hK => ?_)
  go_simp
  refine (KA.out _).mono ?_
  rintro e v1 ⟨rfl, hb1⟩
  refine hK.out _ _ (hHeld.below hb1) (fun hHeld => ?_)
  clear hK K hb1
  refine rd 5 ⟨some 32, _, _, _, _, none⟩ rfl (fun K hK => ?_)
  go_simp
  refine (KB.out _).mono ?_
  rintro e v2 ⟨rfl, hb2⟩
  refine hK.out _ _ (hHeld.below hb2) (fun hHeld => ?_)
  clear hK K hb2
  refine rd 6 ⟨some 33, _, _, _, _, none⟩ rfl (fun K hK => ?_)
  go_simp
  refine (TG.out _).mono ?_
  rintro e v3 ⟨rfl, hb3⟩
  refine hK.out _ _ (hHeld.below hb3) (fun hHeld => ?_)
  clear hK K hb3
  refine tks 7 ⟨some 26, _, _, _, _, none⟩ rfl ?_
  simp only [za, zb, zc, zd]
  refine tks 8 ⟨some 34, _, _, _, _, none⟩ rfl ?_
  simp only [za, zb, zc, zd]
  refine tks 9 ⟨some 35, _, _, _, _, none⟩ rfl ?_
  simp only [za, zb, zc, zd]
  refine tks 10 ⟨some 8, _, _, _, _, none⟩ rfl ?_
  simp only [za, zb, zc, zd]
  refine tks 11 ⟨some 9, _, _, _, _, none⟩ rfl ?_
  simp only [za, zb, zc, zd]
  refine wpAnyH_done (by kernel_rfl) ?_ _
  go_wp2_with fail
  go_meet
  case rel => exact ⟨rfl, rfl, hHeld⟩
 case rest =>
  clear c3_0_0 c3_0_1 c3_1_0 c3_1_1 c3_1_2 c3_1_3 c3_2_0 c3_2_1
  obtain ⟨rfl, rfl, K4⟩ := hcut
  clear K3
  skip
  obtain ⟨c4_0_0, c4_0_1⟩ := (bo1 K4).c2
  obtain ⟨c4_1_0, c4_1_1, c4_1_2, c4_1_3⟩ := (bo2 K4).c4
  obtain ⟨c4_2_0, c4_2_1⟩ := (bo3 K4).c2
  clear c4_0_0 c4_0_1 c4_1_0 c4_1_1 c4_1_2 c4_1_3 c4_2_0 c4_2_1
  obtain ⟨c4_0_0, c4_0_1⟩ := (bo1 K4).c2
  obtain ⟨z4_0_0, z4_0_1⟩ := (bo1 K4).f2
  obtain ⟨c4_1_0, c4_1_1, c4_1_2, c4_1_3⟩ := (bo2 K4).c4
  obtain ⟨c4_2_0, c4_2_1⟩ := (bo3 K4).c2
  have XF : Hid (Bx (wc.setCells (w.heap.size + 3) 0 [vi ki I, vi ki 0]) (w.heap.size + 3) [vi ki I, vi ki 0]) := (K4.out.at (w.heap.size + 3) [vi ki 0, vi ki 0] (by simp)).setAll _ rfl
  have BF : Hid (Below w.heap.size w (wc.setCells (w.heap.size + 3) 0 [vi ki I, vi ki 0])) := below_setCells (by omega) _ _ _ K4.out.1
  have y0 := XF.out.c 0 rfl
  have y1 := XF.out.c 1 rfl
  simp only [World.setCells, Nat.zero_add] at y0 y1
  clear XF
  go_wp2
  exact bodyPost_ret (v := .tuple #[.agg #[vi ki I, vi ki 0], vi ki E]) (by simp [results, Tryz.results19, go_sem, y0, y1]) rfl ⟨rfl, BF.out⟩
theorem az_none (Ok : World → Prop) (T : List Value) (hT : T.length = 25) (i u j n X E : Int) (ka kb : Value)
  (RT : Hid (∀ w : World, Ok w → Calls Tryz.prog 31 #[.agg T.toArray] w fun r' w' => r' = zr (.bool true) ∧ Below w.heap.size w w'))
  (R : Hid (∀ w : World, Ok w → Calls Tryz.prog 32 #[.agg #[vi ki i, vi ki u]] w fun r' w' => r' = zr (.bool true) ∧ Below w.heap.size w w'))
  (PR : Hid (∀ w : World, Calls Tryz.prog 23 #[.agg #[vi ki j, vi ki 0, vi ki 0, vi ki n]] w fun r' w' => r' = zr (.bool true) ∧ Below w.heap.size w w'))
  (KA : Hid (∀ w : World, Calls Tryz.prog 46 #[vi ki i] w fun r' w' => r' = zr (ka) ∧ Below w.heap.size w w'))
  (KB : Hid (∀ w : World, Calls Tryz.prog 46 #[vi ki j] w fun r' w' => r' = zr (kb) ∧ Below w.heap.size w w'))
  (TG : Hid (∀ w : World, Calls Tryz.prog 45 #[ka, kb] w fun r' w' => r' = zr (.tuple #[vi ki 0, vi ki 0]) ∧ Below w.heap.size w w'))
  (MO : Hid (∀ w : World, Ok w → Calls Tryz.prog 35 #[.agg #[vi ki i, vi ki u], vi ki n] w fun r' w' => r' = zr (.tuple #[.agg #[vi ki 0, vi ki X], vi ki E]) ∧ Below w.heap.size w w'))
  (w : World) (hL : Hid (∀ W : World, Below w.heap.size w W → Ok W)) :
  Calls Tryz.prog 19 #[.agg T.toArray, .agg #[vi ki i, vi ki u], .agg #[vi ki j, vi ki 0, vi ki 0, vi ki n]] w fun r' w' => r' = zr (.tuple #[.agg #[vi ki 0, vi ki X], vi ki E]) ∧ Below w.heap.size w w' := by
 have K0 := bsn4 w T 44 [vi ki i, vi ki u] 36 [vi ki j, vi ki 0, vi ki 0, vi ki n] 59 [vi ki 0, vi ki 0] 36
 go_enter Tryz.func19, Tryz.ntmps19
 generalize hUA : T.toArray = UA at *
 go_upto_region 1 with fail
 refine gen_to (BS w [(w.heap.size + 3, [vi ki 0, vi ki 0]), (w.heap.size + 2, [vi ki j, vi ki 0, vi ki 0, vi ki n]), (w.heap.size + 1, [vi ki i, vi ki u]), (w.heap.size, T)]) K0.out ?_
 clear K0
 intro W0 K0'
 have K0 : Hid (BS w [(w.heap.size + 3, [vi ki 0, vi ki 0]), (w.heap.size + 2, [vi ki j, vi ki 0, vi ki 0, vi ki n]), (w.heap.size + 1, [vi ki i, vi ki u]), (w.heap.size, T)] W0) := K0'
 clear K0'
 obtain ⟨c0_0_0, c0_0_1⟩ := (bo1 K0).c2
 obtain ⟨c0_1_0, c0_1_1, c0_1_2, c0_1_3⟩ := (bo2 K0).c4
 obtain ⟨c0_2_0, c0_2_1⟩ := (bo3 K0).c2
 go_wp2_with (first | (refine wpList_load_mid rfl 44 _ rfl (w.heap.size) 0 rfl T _ (K0.out.at (w.heap.size) T (by simp)).all Tryz.underlying44 rfl (by rw [hT]; kernel_rfl) ?_; rw [hUA]) | fail)
 refine (RT.out _ (hL.out _ K0.out.1)).mono ?_
 rintro e W1 ⟨rfl, hb⟩
 have K1 := bsb K0 hb
 clear c0_0_0 c0_0_1 c0_1_0 c0_1_1 c0_1_2 c0_1_3 c0_2_0 c0_2_1
 clear hb K0
 obtain ⟨c1_0_0, c1_0_1⟩ := (bo1 K1).c2
 obtain ⟨c1_1_0, c1_1_1, c1_1_2, c1_1_3⟩ := (bo2 K1).c4
 obtain ⟨c1_2_0, c1_2_1⟩ := (bo3 K1).c2
 go_wp2_with (first | (refine wpList_load_mid rfl 44 _ rfl (w.heap.size) 0 rfl T _ (K1.out.at (w.heap.size) T (by simp)).all Tryz.underlying44 rfl (by rw [hT]; kernel_rfl) ?_; rw [hUA]) | fail)
 refine (R.out _ (hL.out _ K1.out.1)).mono ?_
 rintro e W2 ⟨rfl, hb⟩
 have K2 := bsb K1 hb
 clear c1_0_0 c1_0_1 c1_1_0 c1_1_1 c1_1_2 c1_1_3 c1_2_0 c1_2_1
 clear hb K1
 obtain ⟨c2_0_0, c2_0_1⟩ := (bo1 K2).c2
 obtain ⟨c2_1_0, c2_1_1, c2_1_2, c2_1_3⟩ := (bo2 K2).c4
 obtain ⟨c2_2_0, c2_2_1⟩ := (bo3 K2).c2
 go_wp2_with (first | (refine wpList_load_mid rfl 44 _ rfl (w.heap.size) 0 rfl T _ (K2.out.at (w.heap.size) T (by simp)).all Tryz.underlying44 rfl (by rw [hT]; kernel_rfl) ?_; rw [hUA]) | fail)
 refine (PR.out _).mono ?_
 rintro e W3 ⟨rfl, hb⟩
 have K3 := bsb K2 hb
 clear c2_0_0 c2_0_1 c2_1_0 c2_1_1 c2_1_2 c2_1_3 c2_2_0 c2_2_1
 clear hb K2
 obtain ⟨c3_0_0, c3_0_1⟩ := (bo1 K3).c2
 obtain ⟨c3_1_0, c3_1_1, c3_1_2, c3_1_3⟩ := (bo2 K3).c4
 obtain ⟨c3_2_0, c3_2_1⟩ := (bo3 K3).c2
 go_wp2_with fail
 go_cut [8, 9] (fun v0 v1 wx => v0 = vi ki 0 ∧ v1 = vi ki 0 ∧ Hid (BS w [(w.heap.size + 3, [vi ki 0, vi ki 0]), (w.heap.size + 2, [vi ki j, vi ki 0, vi ki 0, vi ki n]), (w.heap.size + 1, [vi ki i, vi ki u]), (w.heap.size, T)] wx))
 case first =>
  refine wp_region_held_drew (S := BS w [(w.heap.size + 3, [vi ki 0, vi ki 0]), (w.heap.size + 2, [vi ki j, vi ki 0, vi ki 0, vi ki n]), (w.heap.size + 1, [vi ki i, vi ki u]), (w.heap.size, T)]) (by kernel_rfl) K3.out.drew (fun hHeld => ?_)
  refine tks 0 ⟨some 27, _, _, _, _, none⟩ rfl ?_
  simp only [za, zb, zc, zd]
  refine tk (v := ?_) 1 ⟨some 28, _, _, _, _, none⟩ rfl ?_ ?_
  case refine_2 => (intro w9 hSw; obtain ⟨l0_0, l0_1⟩ := (hSw.at (w.heap.size + 3) [vi ki 0, vi ki 0] (by simp)).c2; obtain ⟨l1_0, l1_1, l1_2, l1_3⟩ := (hSw.at (w.heap.size + 2) [vi ki j, vi ki 0, vi ki 0, vi ki n] (by simp)).c4; obtain ⟨l2_0, l2_1⟩ := (hSw.at (w.heap.size + 1) [vi ki i, vi ki u] (by simp)).c2; clear hSw; go_simp; try with_reducible rfl)
  simp only [za, zb, zc, zd]
  refine tks 3 ⟨some 30, _, _, _, _, none⟩ rfl ?_
  simp only [za, zb, zc, zd]
  refine tk (v := ?_) 4 ⟨some 31, _, _, _, _, none⟩ rfl ?_ ?_
  case refine_2 => (intro w9 hSw; obtain ⟨l0_0, l0_1⟩ := (hSw.at (w.heap.size + 3) [vi ki 0, vi ki 0] (by simp)).c2; obtain ⟨l1_0, l1_1, l1_2, l1_3⟩ := (hSw.at (w.heap.size + 2) [vi ki j, vi ki 0, vi ki 0, vi ki n] (by simp)).c4; obtain ⟨l2_0, l2_1⟩ := (hSw.at (w.heap.size + 1) [vi ki i, vi ki u] (by simp)).c2; clear hSw; go_simp; try with_reducible rfl)
  simp only [za, zb, zc, zd]
  refine rd 2 ⟨some 29, _, _, _, _, none⟩ rfl (fun K hK => ?_)
  go_simp
  refine (KA.out _).mono ?_
  rintro e v1 ⟨rfl, hb1⟩
  refine hK.out _ _ (hHeld.below hb1) (fun hHeld => ?_)
  clear hK K hb1
  refine rd 5 ⟨some 32, _, _, _, _, none⟩ rfl (fun K hK => ?_)
  go_simp
  refine (KB.out _).mono ?_
  rintro e v2 ⟨rfl, hb2⟩
  refine hK.out _ _ (hHeld.below hb2) (fun hHeld => ?_)
  clear hK K hb2
  refine rd 6 ⟨some 33, _, _, _, _, none⟩ rfl (fun K hK => ?_)
  go_simp
  refine (TG.out _).mono ?_
  rintro e v3 ⟨rfl, hb3⟩
  refine hK.out _ _ (hHeld.below hb3) (fun hHeld => ?_)
  clear hK K hb3
  refine tks 7 ⟨some 26, _, _, _, _, none⟩ rfl ?_
  simp only [za, zb, zc, zd]
  refine tks 8 ⟨some 34, _, _, _, _, none⟩ rfl ?_
  simp only [za, zb, zc, zd]
  refine tks 9 ⟨some 35, _, _, _, _, none⟩ rfl ?_
  simp only [za, zb, zc, zd]
  refine tks 10 ⟨some 8, _, _, _, _, none⟩ rfl ?_
  simp only [za, zb, zc, zd]
  refine tks 11 ⟨some 9, _, _, _, _, none⟩ rfl ?_
  simp only [za, zb, zc, zd]
  refine wpAnyH_done (by kernel_rfl) ?_ _
  go_wp2_with fail
  go_meet
  case rel => exact ⟨rfl, rfl, hHeld⟩
 case rest =>
  clear c3_0_0 c3_0_1 c3_1_0 c3_1_1 c3_1_2 c3_1_3 c3_2_0 c3_2_1
  obtain ⟨rfl, rfl, K4⟩ := hcut
  clear K3
  skip
  obtain ⟨c4_0_0, c4_0_1⟩ := (bo1 K4).c2
  obtain ⟨c4_1_0, c4_1_1, c4_1_2, c4_1_3⟩ := (bo2 K4).c4
  obtain ⟨c4_2_0, c4_2_1⟩ := (bo3 K4).c2
  go_wp2_with (first | (refine wpList_load_mid rfl 44 _ rfl (w.heap.size) 0 rfl T _ (K4.out.at (w.heap.size) T (by simp)).all Tryz.underlying44 rfl (by rw [hT]; kernel_rfl) ?_; rw [hUA]) | fail)
  refine (MO.out _ (hL.out _ K4.out.1)).mono ?_
  rintro e W5 ⟨rfl, hb⟩
  have K5 := bsb K4 hb
  clear c4_0_0 c4_0_1 c4_1_0 c4_1_1 c4_1_2 c4_1_3 c4_2_0 c4_2_1
  clear hb K4
  obtain ⟨c5_0_0, c5_0_1⟩ := (bo1 K5).c2
  obtain ⟨z5_0_0, z5_0_1⟩ := (bo1 K5).f2
  obtain ⟨c5_1_0, c5_1_1, c5_1_2, c5_1_3⟩ := (bo2 K5).c4
  obtain ⟨c5_2_0, c5_2_1⟩ := (bo3 K5).c2
  have XF : Hid (Bx (W5.setCells (w.heap.size + 3) 0 [vi ki 0, vi ki X]) (w.heap.size + 3) [vi ki 0, vi ki X]) := (K5.out.at (w.heap.size + 3) [vi ki 0, vi ki 0] (by simp)).setAll _ rfl
  have BF : Hid (Below w.heap.size w (W5.setCells (w.heap.size + 3) 0 [vi ki 0, vi ki X])) := below_setCells (by omega) _ _ _ K5.out.1
  have y0 := XF.out.c 0 rfl
  have y1 := XF.out.c 1 rfl
  simp only [World.setCells, Nat.zero_add] at y0 y1
  clear XF
  go_wp2
  exact bodyPost_ret (v := .tuple #[.agg #[vi ki 0, vi ki X], vi ki E]) (by simp [results, Tryz.results19, go_sem, y0, y1]) rfl ⟨rfl, BF.out⟩
theorem az_errd (Ok : World → Prop) (T : List Value) (hT : T.length = 25) (i u j d n V e : Int) (ka kb : Value) (he : e ≠ 0) (hd : d ≠ 0)
  (RT : Hid (∀ w : World, Ok w → Calls Tryz.prog 31 #[.agg T.toArray] w fun r' w' => r' = zr (.bool true) ∧ Below w.heap.size w w'))
  (R : Hid (∀ w : World, Ok w → Calls Tryz.prog 32 #[.agg #[vi ki i, vi ki u]] w fun r' w' => r' = zr (.bool true) ∧ Below w.heap.size w w'))
  (PR : Hid (∀ w : World, Calls Tryz.prog 23 #[.agg #[vi ki j, vi ki 0, vi ki d, vi ki n]] w fun r' w' => r' = zr (.bool true) ∧ Below w.heap.size w w'))
  (KA : Hid (∀ w : World, Calls Tryz.prog 46 #[vi ki i] w fun r' w' => r' = zr (ka) ∧ Below w.heap.size w w'))
  (KB : Hid (∀ w : World, Calls Tryz.prog 46 #[vi ki j] w fun r' w' => r' = zr (kb) ∧ Below w.heap.size w w'))
  (TG : Hid (∀ w : World, Calls Tryz.prog 45 #[ka, kb] w fun r' w' => r' = zr (.tuple #[vi ki 0, vi ki 0]) ∧ Below w.heap.size w w'))
  (MB : Hid (∀ w : World, Ok w → Calls Tryz.prog 52 #[.agg T.toArray, .agg #[vi ki i, vi ki u], .agg #[vi ki j, vi ki 0, vi ki d, vi ki n]] w fun r' w' => r' = zr (.tuple #[.agg #[vi ki 0, vi ki V], vi ki e]) ∧ Below w.heap.size w w'))
  (w : World) (hL : Hid (∀ W : World, Below w.heap.size w W → Ok W)) :
  Calls Tryz.prog 19 #[.agg T.toArray, .agg #[vi ki i, vi ki u], .agg #[vi ki j, vi ki 0, vi ki d, vi ki n]] w fun r' w' => r' = zr (.tuple #[.agg #[vi ki 0, vi ki 0], vi ki e]) ∧ Below w.heap.size w w' := by
 have m1 : (d != 0) = true := bne_iff_ne.2 hd
 have e1 : (e != 0) = true := bne_iff_ne.2 he
 have K0 := bsn4 w T 44 [vi ki i, vi ki u] 36 [vi ki j, vi ki 0, vi ki d, vi ki n] 59 [vi ki 0, vi ki 0] 36
 go_enter Tryz.func19, Tryz.ntmps19
 generalize hUA : T.toArray = UA at *
 go_upto_region 1 with fail
 refine gen_to (BS w [(w.heap.size + 3, [vi ki 0, vi ki 0]), (w.heap.size + 2, [vi ki j, vi ki 0, vi ki d, vi ki n]), (w.heap.size + 1, [vi ki i, vi ki u]), (w.heap.size, T)]) K0.out ?_
 clear K0
 intro W0 K0'
 have K0 : Hid (BS w [(w.heap.size + 3, [vi ki 0, vi ki 0]), (w.heap.size + 2, [vi ki j, vi ki 0, vi ki d, vi ki n]), (w.heap.size + 1, [vi ki i, vi ki u]), (w.heap.size, T)] W0) := K0'
 clear K0'
 obtain ⟨c0_0_0, c0_0_1⟩ := (bo1 K0).c2
 obtain ⟨c0_1_0, c0_1_1, c0_1_2, c0_1_3⟩ := (bo2 K0).c4
 obtain ⟨c0_2_0, c0_2_1⟩ := (bo3 K0).c2
 go_wp2_with (first | (refine wpList_load_mid rfl 44 _ rfl (w.heap.size) 0 rfl T _ (K0.out.at (w.heap.size) T (by simp)).all Tryz.underlying44 rfl (by rw [hT]; kernel_rfl) ?_; rw [hUA]) | fail)
 refine (RT.out _ (hL.out _ K0.out.1)).mono ?_
 rintro e W1 ⟨rfl, hb⟩
 have K1 := bsb K0 hb
 clear c0_0_0 c0_0_1 c0_1_0 c0_1_1 c0_1_2 c0_1_3 c0_2_0 c0_2_1
 clear hb K0
 obtain ⟨c1_0_0, c1_0_1⟩ := (bo1 K1).c2
 obtain ⟨c1_1_0, c1_1_1, c1_1_2, c1_1_3⟩ := (bo2 K1).c4
 obtain ⟨c1_2_0, c1_2_1⟩ := (bo3 K1).c2
 go_wp2_with (first | (refine wpList_load_mid rfl 44 _ rfl (w.heap.size) 0 rfl T _ (K1.out.at (w.heap.size) T (by simp)).all Tryz.underlying44 rfl (by rw [hT]; kernel_rfl) ?_; rw [hUA]) | fail)
 refine (R.out _ (hL.out _ K1.out.1)).mono ?_
 rintro e W2 ⟨rfl, hb⟩
 have K2 := bsb K1 hb
 clear c1_0_0 c1_0_1 c1_1_0 c1_1_1 c1_1_2 c1_1_3 c1_2_0 c1_2_1
 clear hb K1
 obtain ⟨c2_0_0, c2_0_1⟩ := (bo1 K2).c2
 obtain ⟨c2_1_0, c2_1_1, c2_1_2, c2_1_3⟩ := (bo2 K2).c4
 obtain ⟨c2_2_0, c2_2_1⟩ := (bo3 K2).c2
 go_wp2_with (first | (refine wpList_load_mid rfl 44 _ rfl (w.heap.size) 0 rfl T _ (K2.out.at (w.heap.size) T (by simp)).all Tryz.underlying44 rfl (by rw [hT]; kernel_rfl) ?_; rw [hUA]) | fail)
 refine (PR.out _).mono ?_
 rintro e W3 ⟨rfl, hb⟩
 have K3 := bsb K2 hb
 clear c2_0_0 c2_0_1 c2_1_0 c2_1_1 c2_1_2 c2_1_3 c2_2_0 c2_2_1
 clear hb K2
 obtain ⟨c3_0_0, c3_0_1⟩ := (bo1 K3).c2
 obtain ⟨c3_1_0, c3_1_1, c3_1_2, c3_1_3⟩ := (bo2 K3).c4
 obtain ⟨c3_2_0, c3_2_1⟩ := (bo3 K3).c2
 go_wp2_with fail
 go_cut [8, 9] (fun v0 v1 wx => v0 = vi ki 0 ∧ v1 = vi ki 0 ∧ Hid (BS w [(w.heap.size + 3, [vi ki 0, vi ki 0]), (w.heap.size + 2, [vi ki j, vi ki 0, vi ki d, vi ki n]), (w.heap.size + 1, [vi ki i, vi ki u]), (w.heap.size, T)] wx))
 case first =>
  refine wp_region_held_drew (S := BS w [(w.heap.size + 3, [vi ki 0, vi ki 0]), (w.heap.size + 2, [vi ki j, vi ki 0, vi ki d, vi ki n]), (w.heap.size + 1, [vi ki i, vi ki u]), (w.heap.size, T)]) (by kernel_rfl) K3.out.drew (fun hHeld => ?_)
  refine tks 0 ⟨some 27, _, _, _, _, none⟩ rfl ?_
  simp only [za, zb, zc, zd]
  refine tk (v := ?_) 1 ⟨some 28, _, _, _, _, none⟩ rfl ?_ ?_
  case refine_2 => (intro w9 hSw; obtain ⟨l0_0, l0_1⟩ := (hSw.at (w.heap.size + 3) [vi ki 0, vi ki 0] (by simp)).c2; obtain ⟨l1_0, l1_1, l1_2, l1_3⟩ := (hSw.at (w.heap.size + 2) [vi ki j, vi ki 0, vi ki d, vi ki n] (by simp)).c4; obtain ⟨l2_0, l2_1⟩ := (hSw.at (w.heap.size + 1) [vi ki i, vi ki u] (by simp)).c2; clear hSw; go_simp; try with_reducible rfl)
  simp only [za, zb, zc, zd]
  refine tks 3 ⟨some 30, _, _, _, _, none⟩ rfl ?_
  simp only [za, zb, zc, zd]
  refine tk (v := ?_) 4 ⟨some 31, _, _, _, _, none⟩ rfl ?_ ?_
  case refine_2 => (intro w9 hSw; obtain ⟨l0_0, l0_1⟩ := (hSw.at (w.heap.size + 3) [vi ki 0, vi ki 0] (by simp)).c2; obtain ⟨l1_0, l1_1, l1_2, l1_3⟩ := (hSw.at (w.heap.size + 2) [vi ki j, vi ki 0, vi ki d, vi ki n] (by simp)).c4; obtain ⟨l2_0, l2_1⟩ := (hSw.at (w.heap.size + 1) [vi ki i, vi ki u] (by simp)).c2; clear hSw; go_simp; try with_reducible rfl)
  simp only [za, zb, zc, zd]
  refine rd 2 ⟨some 29, _, _, _, _, none⟩ rfl (fun K hK => ?_)
  go_simp
  refine (KA.out _).mono ?_
  rintro e v1 ⟨rfl, hb1⟩
  refine hK.out _ _ (hHeld.below hb1) (fun hHeld => ?_)
  clear hK K hb1
  refine rd 5 ⟨some 32, _, _, _, _, none⟩ rfl (fun K hK => ?_)
  go_simp
  refine (KB.out _).mono ?_
  rintro e v2 ⟨rfl, hb2⟩
  refine hK.out _ _ (hHeld.below hb2) (fun hHeld => ?_)
  clear hK K hb2
  refine rd 6 ⟨some 33, _, _, _, _, none⟩ rfl (fun K hK => ?_)
  go_simp
  refine (TG.out _).mono ?_
  rintro e v3 ⟨rfl, hb3⟩
  refine hK.out _ _ (hHeld.below hb3) (fun hHeld => ?_)
  clear hK K hb3
  refine tks 7 ⟨some 26, _, _, _, _, none⟩ rfl ?_
  simp only [za, zb, zc, zd]
  refine tks 8 ⟨some 34, _, _, _, _, none⟩ rfl ?_
  simp only [za, zb, zc, zd]
  refine tks 9 ⟨some 35, _, _, _, _, none⟩ rfl ?_
  simp only [za, zb, zc, zd]
  refine tks 10 ⟨some 8, _, _, _, _, none⟩ rfl ?_
  simp only [za, zb, zc, zd]
  refine tks 11 ⟨some 9, _, _, _, _, none⟩ rfl ?_
  simp only [za, zb, zc, zd]
  refine wpAnyH_done (by kernel_rfl) ?_ _
  go_wp2_with fail
  go_meet
  case rel => exact ⟨rfl, rfl, hHeld⟩
 case rest =>
  clear c3_0_0 c3_0_1 c3_1_0 c3_1_1 c3_1_2 c3_1_3 c3_2_0 c3_2_1
  obtain ⟨rfl, rfl, K4⟩ := hcut
  clear K3
  skip
  obtain ⟨c4_0_0, c4_0_1⟩ := (bo1 K4).c2
  obtain ⟨c4_1_0, c4_1_1, c4_1_2, c4_1_3⟩ := (bo2 K4).c4
  obtain ⟨c4_2_0, c4_2_1⟩ := (bo3 K4).c2
  go_wp2_with (first | (refine wpList_load_mid rfl 44 _ rfl (w.heap.size) 0 rfl T _ (K4.out.at (w.heap.size) T (by simp)).all Tryz.underlying44 rfl (by rw [hT]; kernel_rfl) ?_; rw [hUA]) | fail)
  refine (MB.out _ (hL.out _ K4.out.1)).mono ?_
  rintro e W5 ⟨rfl, hb⟩
  have K5 := bsb K4 hb
  clear c4_0_0 c4_0_1 c4_1_0 c4_1_1 c4_1_2 c4_1_3 c4_2_0 c4_2_1
  clear hb K4
  obtain ⟨c5_0_0, c5_0_1⟩ := (bo1 K5).c2
  obtain ⟨c5_1_0, c5_1_1, c5_1_2, c5_1_3⟩ := (bo2 K5).c4
  obtain ⟨c5_2_0, c5_2_1⟩ := (bo3 K5).c2
  have Mz5 := bsn K5 [vi ki 0, vi ki V] 36
  have lt5_0 := (bo1 K5).1
  have lt5_1 := (bo2 K5).1
  have lt5_2 := (bo3 K5).1
  have lt5_3 := (bo4 K5).1
  go_upto_region 8 with fail
  refine bs_to Mz5 ?_
  clear c5_0_0 c5_0_1 c5_1_0 c5_1_1 c5_1_2 c5_1_3 c5_2_0 c5_2_1
  intro W6 K6
  clear Mz5 K5
  obtain ⟨c6_0_0, c6_0_1⟩ := (bo1 K6).c2
  obtain ⟨c6_1_0, c6_1_1⟩ := (bo2 K6).c2
  obtain ⟨z6_1_0, z6_1_1⟩ := (bo2 K6).f2
  obtain ⟨c6_2_0, c6_2_1, c6_2_2, c6_2_3⟩ := (bo3 K6).c4
  obtain ⟨c6_3_0, c6_3_1⟩ := (bo4 K6).c2
  have XF : Hid (Bx (W6.setCells (w.heap.size + 3) 0 [vi ki 0, vi ki 0]) (w.heap.size + 3) [vi ki 0, vi ki 0]) := (K6.out.at (w.heap.size + 3) [vi ki 0, vi ki 0] (by simp)).setAll _ rfl
  have BF : Hid (Below w.heap.size w (W6.setCells (w.heap.size + 3) 0 [vi ki 0, vi ki 0])) := below_setCells (by omega) _ _ _ K6.out.1
  have y0 := XF.out.c 0 rfl
  have y1 := XF.out.c 1 rfl
  simp only [World.setCells, Nat.zero_add] at y0 y1
  clear XF
  go_wp2
  exact bodyPost_ret (v := .tuple #[.agg #[vi ki 0, vi ki 0], vi ki e]) (by simp [results, Tryz.results19, go_sem, y0, y1]) rfl ⟨rfl, BF.out⟩
theorem az_okd (Ok : World → Prop) (T : List Value) (hT : T.length = 25) (i u j d n V X E : Int) (ka kb : Value) (hd : d ≠ 0)
  (RT : Hid (∀ w : World, Ok w → Calls Tryz.prog 31 #[.agg T.toArray] w fun r' w' => r' = zr (.bool true) ∧ Below w.heap.size w w'))
  (R : Hid (∀ w : World, Ok w → Calls Tryz.prog 32 #[.agg #[vi ki i, vi ki u]] w fun r' w' => r' = zr (.bool true) ∧ Below w.heap.size w w'))
  (PR : Hid (∀ w : World, Calls Tryz.prog 23 #[.agg #[vi ki j, vi ki 0, vi ki d, vi ki n]] w fun r' w' => r' = zr (.bool true) ∧ Below w.heap.size w w'))
  (KA : Hid (∀ w : World, Calls Tryz.prog 46 #[vi ki i] w fun r' w' => r' = zr (ka) ∧ Below w.heap.size w w'))
  (KB : Hid (∀ w : World, Calls Tryz.prog 46 #[vi ki j] w fun r' w' => r' = zr (kb) ∧ Below w.heap.size w w'))
  (TG : Hid (∀ w : World, Calls Tryz.prog 45 #[ka, kb] w fun r' w' => r' = zr (.tuple #[vi ki 0, vi ki 0]) ∧ Below w.heap.size w w'))
  (MB : Hid (∀ w : World, Ok w → Calls Tryz.prog 52 #[.agg T.toArray, .agg #[vi ki i, vi ki u], .agg #[vi ki j, vi ki 0, vi ki d, vi ki n]] w fun r' w' => r' = zr (.tuple #[.agg #[vi ki 0, vi ki V], vi ki 0]) ∧ Below w.heap.size w w'))
  (MO : Hid (∀ w : World, Ok w → Calls Tryz.prog 35 #[.agg #[vi ki 0, vi ki V], vi ki n] w fun r' w' => r' = zr (.tuple #[.agg #[vi ki 0, vi ki X], vi ki E]) ∧ Below w.heap.size w w'))
  (w : World) (hL : Hid (∀ W : World, Below w.heap.size w W → Ok W)) :
  Calls Tryz.prog 19 #[.agg T.toArray, .agg #[vi ki i, vi ki u], .agg #[vi ki j, vi ki 0, vi ki d, vi ki n]] w fun r' w' => r' = zr (.tuple #[.agg #[vi ki 0, vi ki X], vi ki E]) ∧ Below w.heap.size w w' := by
 have m1 : (d != 0) = true := bne_iff_ne.2 hd
 have K0 := bsn4 w T 44 [vi ki i, vi ki u] 36 [vi ki j, vi ki 0, vi ki d, vi ki n] 59 [vi ki 0, vi ki 0] 36
 go_enter Tryz.func19, Tryz.ntmps19
 generalize hUA : T.toArray = UA at *
 go_upto_region 1 with fail
 refine gen_to (BS w [(w.heap.size + 3, [vi ki 0, vi ki 0]), (w.heap.size + 2, [vi ki j, vi ki 0, vi ki d, vi ki n]), (w.heap.size + 1, [vi ki i, vi ki u]), (w.heap.size, T)]) K0.out ?_
 clear K0
 intro W0 K0'
 have K0 : Hid (BS w [(w.heap.size + 3, [vi ki 0, vi ki 0]), (w.heap.size + 2, [vi ki j, vi ki 0, vi ki d, vi ki n]), (w.heap.size + 1, [vi ki i, vi ki u]), (w.heap.size, T)] W0) := K0'
 clear K0'
 obtain ⟨c0_0_0, c0_0_1⟩ := (bo1 K0).c2
 obtain ⟨c0_1_0, c0_1_1, c0_1_2, c0_1_3⟩ := (bo2 K0).c4
 obtain ⟨c0_2_0, c0_2_1⟩ := (bo3 K0).c2
 go_wp2_with (first | (refine wpList_load_mid rfl 44 _ rfl (w.heap.size) 0 rfl T _ (K0.out.at (w.heap.size) T (by simp)).all Tryz.underlying44 rfl (by rw [hT]; kernel_rfl) ?_; rw [hUA]) | fail)
 refine (RT.out _ (hL.out _ K0.out.1)).mono ?_
 rintro e W1 ⟨rfl, hb⟩
 have K1 := bsb K0 hb
 clear c0_0_0 c0_0_1 c0_1_0 c0_1_1 c0_1_2 c0_1_3 c0_2_0 c0_2_1
 clear hb K0
 obtain ⟨c1_0_0, c1_0_1⟩ := (bo1 K1).c2
 obtain ⟨c1_1_0, c1_1_1, c1_1_2, c1_1_3⟩ := (bo2 K1).c4
 obtain ⟨c1_2_0, c1_2_1⟩ := (bo3 K1).c2
 go_wp2_with (first | (refine wpList_load_mid rfl 44 _ rfl (w.heap.size) 0 rfl T _ (K1.out.at (w.heap.size) T (by simp)).all Tryz.underlying44 rfl (by rw [hT]; kernel_rfl) ?_; rw [hUA]) | fail)
 refine (R.out _ (hL.out _ K1.out.1)).mono ?_
 rintro e W2 ⟨rfl, hb⟩
 have K2 := bsb K1 hb
 clear c1_0_0 c1_0_1 c1_1_0 c1_1_1 c1_1_2 c1_1_3 c1_2_0 c1_2_1
 clear hb K1
 obtain ⟨c2_0_0, c2_0_1⟩ := (bo1 K2).c2
 obtain ⟨c2_1_0, c2_1_1, c2_1_2, c2_1_3⟩ := (bo2 K2).c4
 obtain ⟨c2_2_0, c2_2_1⟩ := (bo3 K2).c2
 go_wp2_with (first | (refine wpList_load_mid rfl 44 _ rfl (w.heap.size) 0 rfl T _ (K2.out.at (w.heap.size) T (by simp)).all Tryz.underlying44 rfl (by rw [hT]; kernel_rfl) ?_; rw [hUA]) | fail)
 refine (PR.out _).mono ?_
 rintro e W3 ⟨rfl, hb⟩
 have K3 := bsb K2 hb
 clear c2_0_0 c2_0_1 c2_1_0 c2_1_1 c2_1_2 c2_1_3 c2_2_0 c2_2_1
 clear hb K2
 obtain ⟨c3_0_0, c3_0_1⟩ := (bo1 K3).c2
 obtain ⟨c3_1_0, c3_1_1, c3_1_2, c3_1_3⟩ := (bo2 K3).c4
 obtain ⟨c3_2_0, c3_2_1⟩ := (bo3 K3).c2
 go_wp2_with fail
 go_cut [8, 9] (fun v0 v1 wx => v0 = vi ki 0 ∧ v1 = vi ki 0 ∧ Hid (BS w [(w.heap.size + 3, [vi ki 0, vi ki 0]), (w.heap.size + 2, [vi ki j, vi ki 0, vi ki d, vi ki n]), (w.heap.size + 1, [vi ki i, vi ki u]), (w.heap.size, T)] wx))
 case first =>
  refine wp_region_held_drew (S := BS w [(w.heap.size + 3, [vi ki 0, vi ki 0]), (w.heap.size + 2, [vi ki j, vi ki 0, vi ki d, vi ki n]), (w.heap.size + 1, [vi ki i, vi ki u]), (w.heap.size, T)]) (by kernel_rfl) K3.out.drew (fun hHeld => ?_)
  refine tks 0 ⟨some 27, _, _, _, _, none⟩ rfl ?_
  simp only [za, zb, zc, zd]
  refine tk (v := ?_) 1 ⟨some 28, _, _, _, _, none⟩ rfl ?_ ?_
  case refine_2 => (intro w9 hSw; obtain ⟨l0_0, l0_1⟩ := (hSw.at (w.heap.size + 3) [vi ki 0, vi ki 0] (by simp)).c2; obtain ⟨l1_0, l1_1, l1_2, l1_3⟩ := (hSw.at (w.heap.size + 2) [vi ki j, vi ki 0, vi ki d, vi ki n] (by simp)).c4; obtain ⟨l2_0, l2_1⟩ := (hSw.at (w.heap.size + 1) [vi ki i, vi ki u] (by simp)).c2; clear hSw; go_simp; try with_reducible rfl)
  simp only [za, zb, zc, zd]
  refine tks 3 ⟨some 30, _, _, _, _, none⟩ rfl ?_
  simp only [za, zb, zc, zd]
  refine tk (v := ?_) 4 ⟨some 31, _, _, _, _, none⟩ rfl ?_ ?_
  case refine_2 => (intro w9 hSw; obtain ⟨l0_0, l0_1⟩ := (hSw.at (w.heap.size + 3) [vi ki 0, vi ki 0] (by simp)).c2; obtain ⟨l1_0, l1_1, l1_2, l1_3⟩ := (hSw.at (w.heap.size + 2) [vi ki j, vi ki 0, vi ki d, vi ki n] (by simp)).c4; obtain ⟨l2_0, l2_1⟩ := (hSw.at (w.heap.size + 1) [vi ki i, vi ki u] (by simp)).c2; clear hSw; go_simp; try with_reducible rfl)
  simp only [za, zb, zc, zd]
  refine rd 2 ⟨some 29, _, _, _, _, none⟩ rfl (fun K hK => ?_)
  go_simp
  refine (KA.out _).mono ?_
  rintro e v1 ⟨rfl, hb1⟩
  refine hK.out _ _ (hHeld.below hb1) (fun hHeld => ?_)
  clear hK K hb1
  refine rd 5 ⟨some 32, _, _, _, _, none⟩ rfl (fun K hK => ?_)
  go_simp
  refine (KB.out _).mono ?_
  rintro e v2 ⟨rfl, hb2⟩
  refine hK.out _ _ (hHeld.below hb2) (fun hHeld => ?_)
  clear hK K hb2
  refine rd 6 ⟨some 33, _, _, _, _, none⟩ rfl (fun K hK => ?_)
  go_simp
  refine (TG.out _).mono ?_
  rintro e v3 ⟨rfl, hb3⟩
  refine hK.out _ _ (hHeld.below hb3) (fun hHeld => ?_)
  clear hK K hb3
  refine tks 7 ⟨some 26, _, _, _, _, none⟩ rfl ?_
  simp only [za, zb, zc, zd]
  refine tks 8 ⟨some 34, _, _, _, _, none⟩ rfl ?_
  simp only [za, zb, zc, zd]
  refine tks 9 ⟨some 35, _, _, _, _, none⟩ rfl ?_
  simp only [za, zb, zc, zd]
  refine tks 10 ⟨some 8, _, _, _, _, none⟩ rfl ?_
  simp only [za, zb, zc, zd]
  refine tks 11 ⟨some 9, _, _, _, _, none⟩ rfl ?_
  simp only [za, zb, zc, zd]
  refine wpAnyH_done (by kernel_rfl) ?_ _
  go_wp2_with fail
  go_meet
  case rel => exact ⟨rfl, rfl, hHeld⟩
 case rest =>
  clear c3_0_0 c3_0_1 c3_1_0 c3_1_1 c3_1_2 c3_1_3 c3_2_0 c3_2_1
  obtain ⟨rfl, rfl, K4⟩ := hcut
  clear K3
  skip
  obtain ⟨c4_0_0, c4_0_1⟩ := (bo1 K4).c2
  obtain ⟨c4_1_0, c4_1_1, c4_1_2, c4_1_3⟩ := (bo2 K4).c4
  obtain ⟨c4_2_0, c4_2_1⟩ := (bo3 K4).c2
  go_wp2_with (first | (refine wpList_load_mid rfl 44 _ rfl (w.heap.size) 0 rfl T _ (K4.out.at (w.heap.size) T (by simp)).all Tryz.underlying44 rfl (by rw [hT]; kernel_rfl) ?_; rw [hUA]) | fail)
  refine (MB.out _ (hL.out _ K4.out.1)).mono ?_
  rintro e W5 ⟨rfl, hb⟩
  have K5 := bsb K4 hb
  clear c4_0_0 c4_0_1 c4_1_0 c4_1_1 c4_1_2 c4_1_3 c4_2_0 c4_2_1
  clear hb K4
  obtain ⟨c5_0_0, c5_0_1⟩ := (bo1 K5).c2
  obtain ⟨c5_1_0, c5_1_1, c5_1_2, c5_1_3⟩ := (bo2 K5).c4
  obtain ⟨c5_2_0, c5_2_1⟩ := (bo3 K5).c2
  have Mz5 := bsn K5 [vi ki 0, vi ki V] 36
  have lt5_0 := (bo1 K5).1
  have lt5_1 := (bo2 K5).1
  have lt5_2 := (bo3 K5).1
  have lt5_3 := (bo4 K5).1
  go_upto_region 8 with fail
  refine bs_to Mz5 ?_
  clear c5_0_0 c5_0_1 c5_1_0 c5_1_1 c5_1_2 c5_1_3 c5_2_0 c5_2_1
  intro W6 K6
  clear Mz5 K5
  obtain ⟨c6_0_0, c6_0_1⟩ := (bo1 K6).c2
  obtain ⟨c6_1_0, c6_1_1⟩ := (bo2 K6).c2
  obtain ⟨c6_2_0, c6_2_1, c6_2_2, c6_2_3⟩ := (bo3 K6).c4
  obtain ⟨c6_3_0, c6_3_1⟩ := (bo4 K6).c2
  clear c6_0_0 c6_0_1 c6_1_0 c6_1_1 c6_2_0 c6_2_1 c6_2_2 c6_2_3 c6_3_0 c6_3_1
  obtain ⟨c6_0_0, c6_0_1⟩ := (bo1 K6).c2
  have r6_0 : W6.cell? ⟨w.heap.size + 1, 0, none⟩ = some (vi ki i) := (K6.out.at (w.heap.size + 1) [vi ki i, vi ki u] (by simp)).c 0 rfl
  have sr6_0 : W6.frozen? ⟨w.heap.size + 1, 0, none⟩ = false := (K6.out.at (w.heap.size + 1) [vi ki i, vi ki u] (by simp)).f 0 rfl
  have r6_1 : W6.cell? ⟨w.heap.size + 1, 1, none⟩ = some (vi ki u) := (K6.out.at (w.heap.size + 1) [vi ki i, vi ki u] (by simp)).c 1 rfl
  have sr6_1 : W6.frozen? ⟨w.heap.size + 1, 1, none⟩ = false := (K6.out.at (w.heap.size + 1) [vi ki i, vi ki u] (by simp)).f 1 rfl
  have Mz6 : Hid (BS w [(w.heap.size + 1, [vi ki 0, vi ki V]), (W5.heap.size, [vi ki 0, vi ki V]), (w.heap.size + 3, [vi ki 0, vi ki 0]), (w.heap.size + 2, [vi ki j, vi ki 0, vi ki d, vi ki n]), (w.heap.size, T)] (W6.setCells (w.heap.size + 1) 0 [vi ki 0, vi ki V])) := ((K6.out.perm (l' := [(w.heap.size + 1, [vi ki i, vi ki u]), (W5.heap.size, [vi ki 0, vi ki V]), (w.heap.size + 3, [vi ki 0, vi ki 0]), (w.heap.size + 2, [vi ki j, vi ki 0, vi ki d, vi ki n]), (w.heap.size, T)]) (by intro x hx; simp only [List.mem_cons, List.not_mem_nil, or_false] at hx ⊢; rcases hx with h | h | h | h | h <;> simp [h])).set [vi ki 0, vi ki V] rfl (by intro x hx; simp only [List.mem_cons, List.not_mem_nil, or_false] at hx; rcases hx with rfl | rfl | rfl | rfl <;> simp only [] <;> omega))
  simp only [World.setCells, Nat.zero_add] at Mz6
  go_upto_region 11 with fail
  refine gen_to (BS w [(w.heap.size + 1, [vi ki 0, vi ki V]), (W5.heap.size, [vi ki 0, vi ki V]), (w.heap.size + 3, [vi ki 0, vi ki 0]), (w.heap.size + 2, [vi ki j, vi ki 0, vi ki d, vi ki n]), (w.heap.size, T)]) Mz6.out ?_
  clear c6_0_0 c6_0_1 r6_0 sr6_0 r6_1 sr6_1
  intro W7 K7'
  have K7 : Hid (BS w [(w.heap.size + 1, [vi ki 0, vi ki V]), (W5.heap.size, [vi ki 0, vi ki V]), (w.heap.size + 3, [vi ki 0, vi ki 0]), (w.heap.size + 2, [vi ki j, vi ki 0, vi ki d, vi ki n]), (w.heap.size, T)] W7) := K7'
  clear K7' Mz6 K6
  obtain ⟨c7_0_0, c7_0_1⟩ := (bo1 K7).c2
  obtain ⟨c7_1_0, c7_1_1⟩ := (bo2 K7).c2
  obtain ⟨c7_2_0, c7_2_1⟩ := (bo3 K7).c2
  obtain ⟨c7_3_0, c7_3_1, c7_3_2, c7_3_3⟩ := (bo4 K7).c4
  go_wp2_with (first | (refine wpList_load_mid rfl 44 _ rfl (w.heap.size) 0 rfl T _ (K7.out.at (w.heap.size) T (by simp)).all Tryz.underlying44 rfl (by rw [hT]; kernel_rfl) ?_; rw [hUA]) | fail)
  refine (MO.out _ (hL.out _ K7.out.1)).mono ?_
  rintro e W8 ⟨rfl, hb⟩
  have K8 := bsb K7 hb
  clear c7_0_0 c7_0_1 c7_1_0 c7_1_1 c7_2_0 c7_2_1 c7_3_0 c7_3_1 c7_3_2 c7_3_3
  clear hb K7
  obtain ⟨c8_0_0, c8_0_1⟩ := (bo1 K8).c2
  obtain ⟨c8_1_0, c8_1_1⟩ := (bo2 K8).c2
  obtain ⟨c8_2_0, c8_2_1⟩ := (bo3 K8).c2
  obtain ⟨z8_2_0, z8_2_1⟩ := (bo3 K8).f2
  obtain ⟨c8_3_0, c8_3_1, c8_3_2, c8_3_3⟩ := (bo4 K8).c4
  have XF : Hid (Bx (W8.setCells (w.heap.size + 3) 0 [vi ki 0, vi ki X]) (w.heap.size + 3) [vi ki 0, vi ki X]) := (K8.out.at (w.heap.size + 3) [vi ki 0, vi ki 0] (by simp)).setAll _ rfl
  have BF : Hid (Below w.heap.size w (W8.setCells (w.heap.size + 3) 0 [vi ki 0, vi ki X])) := below_setCells (by omega) _ _ _ K8.out.1
  have y0 := XF.out.c 0 rfl
  have y1 := XF.out.c 1 rfl
  simp only [World.setCells, Nat.zero_add] at y0 y1
  clear XF
  go_wp2
  exact bodyPost_ret (v := .tuple #[.agg #[vi ki 0, vi ki X], vi ki E]) (by simp [results, Tryz.results19, go_sem, y0, y1]) rfl ⟨rfl, BF.out⟩
end Go.Proofs.YtklehbmghjcmaaaGreatDoor
