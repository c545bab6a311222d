import Derived.Test.YtklehbmghjcmaaaGreatDoorSz
import Derived.Test.YtklehbmghjcmaaaGreatDoorS11
import Derived.Test.YtklehbmghjcmaaaGreatDoorS23
import Derived.Test.YtklehbmghjcmaaaGreatDoorS24
import Derived.Test.YtklehbmghjcmaaaGreatDoorS2
open Go.Value renaming int → vi
open Go.IntKind renaming i64 → ki
open List renaming setIfInBounds_toArray → zb, set_cons_zero → zc, set_cons_succ → zd
open Go.Act renaming put → za
open Go.Ending renaming returned → zr
set_option maxRecDepth 100000
set_option maxHeartbeats 16000000
set_option linter.unusedVariables false
namespace Go.Proofs.YtklehbmghjcmaaaGreatDoor
open Go.RowKit
theorem known_run
  (LO : ∀ (ao : Option Addr) (c : Nat), 2 ≤ c → Hid (∀ w : World, OkN (.slice ao 2 c) LB w → Calls Tryz.prog 10 #[.agg (tbF nmB fB (.slice ao 2 c) zeF).toArray, .agg #[vi ki 0, vi ki 783304200000000]] w fun r' w' => r' = zr (.tuple #[.agg #[vi ki 0, vi ki 783311400000000], vi ki 0]) ∧ Below w.heap.size w w'))
  (IN : ∀ (ao : Option Addr) (c : Nat), 2 ≤ c → Hid (∀ w : World, OkN (.slice ao 2 c) LB w → Calls Tryz.prog 12 #[.agg (tbF nmB fB (.slice ao 2 c) zeF).toArray, .agg #[vi ki 0, vi ki 783311400000000]] w fun r' w' => r' = zr (.tuple #[.agg #[vi ki 0, vi ki 783304200000000], vi ki 1, vi ki 0]) ∧ Below w.heap.size w w'))
  (Z1 : ∀ (ao : Option Addr) (c : Nat), 2 ≤ c → Hid (∀ w : World, OkN (.slice ao 2 c) LB w → Calls Tryz.prog 19 #[.agg (tbF nmB fB (.slice ao 2 c) zeF).toArray, .agg #[vi ki 0, vi ki 765111600000000], .agg #[vi ki 0, vi ki 0, vi ki 1, vi ki 0]] w fun r' w' => r' = zr (.tuple #[.agg #[vi ki 0, vi ki 765194400000000], vi ki 0]) ∧ Below w.heap.size w w'))
  (Z2 : ∀ (ao : Option Addr) (c : Nat), 2 ≤ c → Hid (∀ w : World, OkN (.slice ao 2 c) LB w → Calls Tryz.prog 19 #[.agg (tbF nmB fB (.slice ao 2 c) zeF).toArray, .agg #[vi ki 0, vi ki 765111600000000], .agg #[vi ki 0, vi ki 0, vi ki 0, vi ki 86400000000]] w fun r' w' => r' = zr (.tuple #[.agg #[vi ki 0, vi ki 765198000000000], vi ki 0]) ∧ Below w.heap.size w w'))
  (AG : ∀ (ao : Option Addr) (c : Nat), 2 ≤ c → Hid (∀ w : World, OkN (.slice ao 2 c) LB w → Calls Tryz.prog 44 #[.agg #[vi ki 0, vi ki 762566400000000], .agg #[vi ki 0, vi ki 759974400000000]] w fun r' w' => r' = zr (.tuple #[.agg #[vi ki 0, vi ki 1, vi ki 1, vi ki 0], vi ki 0]) ∧ Below w.heap.size w w'))
  (w0 : World) (hL0 : Cvl.Lens w0) :
  Calls Tryz.prog 16 #[] w0 fun r' w' => r' = zr (.bool true) ∧ Below w0.heap.size w0 w' := by
 have AT1 : Hid (∀ w : World, Calls Tryz.prog 43 #[vi ki 2024, vi ki 10, vi ki 27, vi ki 1800000000] w fun r w' => r = zr (.agg #[vi ki 0, vi ki 783304200000000]) ∧ Below w.heap.size w w') := fun w => at_any 2024 10 27 1800000000 9066 (by decide +kernel) (by decide +kernel) _ (by decide +kernel) w
 have AT2 : Hid (∀ w : World, Calls Tryz.prog 43 #[vi ki 2024, vi ki 3, vi ki 30, vi ki 39600000000] w fun r w' => r = zr (.agg #[vi ki 0, vi ki 765111600000000]) ∧ Below w.heap.size w w') := fun w => at_any 2024 3 30 39600000000 8855 (by decide +kernel) (by decide +kernel) _ (by decide +kernel) w
 have AT3 : Hid (∀ w : World, Calls Tryz.prog 43 #[vi ki 2024, vi ki 3, vi ki 1, vi ki 0] w fun r w' => r = zr (.agg #[vi ki 0, vi ki 762566400000000]) ∧ Below w.heap.size w w') := fun w => at_any 2024 3 1 0 8826 (by decide +kernel) (by decide +kernel) _ (by decide +kernel) w
 have AT4 : Hid (∀ w : World, Calls Tryz.prog 43 #[vi ki 2024, vi ki 1, vi ki 31, vi ki 0] w fun r w' => r = zr (.agg #[vi ki 0, vi ki 759974400000000]) ∧ Below w.heap.size w w') := fun w => at_any 2024 1 31 0 8796 (by decide +kernel) (by decide +kernel) _ (by decide +kernel) w
 have AT5 : Hid (∀ w : World, Calls Tryz.prog 43 #[vi ki 2024, vi ki 10, vi ki 27, vi ki 9000000000] w fun r w' => r = zr (.agg #[vi ki 0, vi ki 783311400000000]) ∧ Below w.heap.size w w') := fun w => at_any 2024 10 27 9000000000 9066 (by decide +kernel) (by decide +kernel) _ (by decide +kernel) w
 have AT6 : Hid (∀ w : World, Calls Tryz.prog 43 #[vi ki 2024, vi ki 3, vi ki 31, vi ki 36000000000] w fun r w' => r = zr (.agg #[vi ki 0, vi ki 765194400000000]) ∧ Below w.heap.size w w') := fun w => at_any 2024 3 31 36000000000 8856 (by decide +kernel) (by decide +kernel) _ (by decide +kernel) w
 have AT7 : Hid (∀ w : World, Calls Tryz.prog 43 #[vi ki 2024, vi ki 3, vi ki 31, vi ki 39600000000] w fun r w' => r = zr (.agg #[vi ki 0, vi ki 765198000000000]) ∧ Below w.heap.size w w') := fun w => at_any 2024 3 31 39600000000 8856 (by decide +kernel) (by decide +kernel) _ (by decide +kernel) w
 go_enter Tryz.func16, Tryz.ntmps16
 go_wp2_with fail
 refine (berlin_any w0).mono ?_
 rintro e w ⟨ao, c, rfl, hc, hTR, hB0⟩
 replace LO := LO ao c hc
 replace IN := IN ao c hc
 replace Z1 := Z1 ao c hc
 replace Z2 := Z2 ao c hc
 replace AG := AG ao c hc
 have hL : Hid (∀ W : World, Below w.heap.size w W → OkN (.slice ao 2 c) LB W) := fun W hb => OkN.below (sv := .slice ao 2 c) (L := LB) ⟨hTR, Dy.lens_of hL0 |>.out _ hB0⟩ hb
 have HB0 : Hid (Below w0.heap.size w0 w) := hB0
 have hT : (tbF nmB fB (.slice ao 2 c) zeF).length = 25 := tbF_len rfl
 have h1c : (tbF nmB fB (.slice ao 2 c) zeF).toArray.all (·.oneCell') = true := one_b _ _ _
 clear hTR hB0 hL0
 generalize tbF nmB fB (.slice ao 2 c) zeF = T at *
 have XZ : Hid (Bx (w.alloc (.cells zeT.toArray 44)) w.heap.size zeT) := Bx.new w zeT _
 have BZ : Hid (Below w.heap.size w (w.alloc (.cells zeT.toArray 44))) := (Below.refl _ _).alloc (Nat.le_refl _) _
 generalize hUA : T.toArray = UA at *
 go_upto_region 2 with (refine wpList_store_mid rfl 44 _ _ rfl w.heap.size 0 UA rfl rfl (by have := XZ.out.there; rw [show UA.size = zeT.length from by rw [← hUA]; exact hT]; exact this) (by rw [show UA.size = 25 from by rw [← hUA]; exact hT]; kernel_rfl) h1c ?_; refine gen_at (BS w [(w.heap.size, T)]) ⟨below_setCells (Nat.le_refl _) _ _ _ BZ.out, fun x hx => by (simp only [List.mem_singleton] at hx; subst hx; exact ⟨Nat.le_refl _, by rw [← hUA]; exact XZ.out.setAll T hT.symm⟩)⟩ ?_; clear XZ BZ; intro W0 K0')
 have K0 : Hid (BS w [(w.heap.size, T)] W0) := K0'
 clear K0'
 go_wp2_with (first | (refine wpList_load_mid rfl 44 _ rfl (w.heap.size) 0 rfl T _ (K0.out.at (w.heap.size) T (by simp)).all Tryz.underlying44 rfl (by rw [hT]; kernel_rfl) ?_; rw [hUA]) | fail)
 refine (AT1.out _).mono ?_
 rintro e W1 ⟨rfl, hb⟩
 have K1 := bsb K0 hb
 clear hb K0
 have Mz1 := bsn K1 [vi ki 0, vi ki 783304200000000] 36
 have lt1_0 := (bo1 K1).1
 go_upto_region 3 with fail
 refine bs_to Mz1 ?_
 intro W2 K2
 clear Mz1 K1
 obtain ⟨c2_0_0, c2_0_1⟩ := (bo1 K2).c2
 go_wp2_with (first | (refine wpList_load_mid rfl 44 _ rfl (w.heap.size) 0 rfl T _ (K2.out.at (w.heap.size) T (by simp)).all Tryz.underlying44 rfl (by rw [hT]; kernel_rfl) ?_; rw [hUA]) | fail)
 refine (LO.out _ (hL.out _ K2.out.1)).mono ?_
 rintro e W3 ⟨rfl, hb⟩
 have K3 := bsb K2 hb
 clear c2_0_0 c2_0_1
 clear hb K2
 obtain ⟨c3_0_0, c3_0_1⟩ := (bo1 K3).c2
 have Mz3 := bsn K3 [vi ki 0, vi ki 783311400000000] 36
 have lt3_0 := (bo1 K3).1
 have lt3_1 := (bo2 K3).1
 go_upto_region 4 with fail
 refine bs_to Mz3 ?_
 clear c3_0_0 c3_0_1
 intro W4 K4
 clear Mz3 K3
 obtain ⟨c4_0_0, c4_0_1⟩ := (bo1 K4).c2
 obtain ⟨c4_1_0, c4_1_1⟩ := (bo2 K4).c2
 go_wp2_with (first | (refine wpList_load_mid rfl 44 _ rfl (w.heap.size) 0 rfl T _ (K4.out.at (w.heap.size) T (by simp)).all Tryz.underlying44 rfl (by rw [hT]; kernel_rfl) ?_; rw [hUA]) | fail)
 refine (IN.out _ (hL.out _ K4.out.1)).mono ?_
 rintro e W5 ⟨rfl, hb⟩
 have K5 := bsb K4 hb
 clear c4_0_0 c4_0_1 c4_1_0 c4_1_1
 clear hb K4
 obtain ⟨c5_0_0, c5_0_1⟩ := (bo1 K5).c2
 obtain ⟨c5_1_0, c5_1_1⟩ := (bo2 K5).c2
 have Mz5 := bsn K5 [vi ki 0, vi ki 783304200000000] 36
 have lt5_0 := (bo1 K5).1
 have lt5_1 := (bo2 K5).1
 have lt5_2 := (bo3 K5).1
 go_upto_region 5 with fail
 refine bs_to Mz5 ?_
 clear c5_0_0 c5_0_1 c5_1_0 c5_1_1
 intro W6 K6
 clear Mz5 K5
 obtain ⟨c6_0_0, c6_0_1⟩ := (bo1 K6).c2
 obtain ⟨c6_1_0, c6_1_1⟩ := (bo2 K6).c2
 obtain ⟨c6_2_0, c6_2_1⟩ := (bo3 K6).c2
 go_cut [8, 9] (fun v0 v1 wx => ∃ nb, v0 = .pointer (some ⟨nb, 0, none⟩) ∧ v1 = vi ki 0 ∧ Hid (BS w ((nb, [vi ki 0, vi ki 765194400000000]) :: [(W5.heap.size, [vi ki 0, vi ki 783304200000000]), (W3.heap.size, [vi ki 0, vi ki 783311400000000]), (W1.heap.size, [vi ki 0, vi ki 783304200000000]), (w.heap.size, T)]) wx ∧ (∀ x ∈ [(W5.heap.size, [vi ki 0, vi ki 783304200000000]), (W3.heap.size, [vi ki 0, vi ki 783311400000000]), (W1.heap.size, [vi ki 0, vi ki 783304200000000]), (w.heap.size, T)], x.1 ≠ nb)))
 case first =>
  refine wp_region_held_drew (S := BS w [(W5.heap.size, [vi ki 0, vi ki 783304200000000]), (W3.heap.size, [vi ki 0, vi ki 783311400000000]), (W1.heap.size, [vi ki 0, vi ki 783304200000000]), (w.heap.size, T)]) (by kernel_rfl) K6.out.drew (fun hHeld => ?_)
  refine wpAnyH_take (i := 0) (v := .agg UA) (oi := ⟨some 31, _, _, _, _, none⟩) rfl (by kernel_rfl) (by kernel_rfl) (by kernel_rfl) (fun _ _ _ h => h) (Or.inl ⟨by kernel_rfl, ?_⟩) (by assumption) ?_
  case refine_1 => (intro w9 hSw; rw [← hUA]; exact exec_row9 rfl rfl (hSw.at (w.heap.size) T (by simp)).all Tryz.underlying44 rfl (by rw [hT]; kernel_rfl))
  simp only [za, zb, zc, zd]
  refine tks 2 ⟨some 33, _, _, _, _, none⟩ rfl ?_
  simp only [za, zb, zc, zd]
  refine wpAnyH_ready (rs := [1, 7]) (by kernel_rfl) (by simp) (AllReadyH.cons (o := ⟨some 32, _, _, _, _, none⟩) rfl (fun K hK => ?_) (AllReadyH.cons (o := ⟨some 8, _, _, _, _, none⟩) rfl (fun K hK => ?_) AllReadyH.nil))
  ·
   go_simp
   refine (AT2.out _).mono ?_
   rintro e v1 ⟨rfl, hb1⟩
   refine hK.out _ _ (hHeld.below hb1) (fun hHeld => ?_)
   try (have HN2 := HN.out.below hb1; clear HN; have HN : Hid (NB _ _ _ _ _) := HN2; clear HN2)
   clear hK K hb1
   refine wpAnyH_ready (rs := [3, 7]) (by kernel_rfl) (by simp) (AllReadyH.cons (o := ⟨some 34, _, _, _, _, none⟩) rfl (fun K hK => ?_) (AllReadyH.cons (o := ⟨some 8, _, _, _, _, none⟩) rfl (fun K hK => ?_) AllReadyH.nil))
   ·
    go_simp
    refine (Z1.out _ (hL.out _ hHeld.1)).mono ?_
    rintro e v2 ⟨rfl, hb2⟩
    refine hK.out _ _ (hHeld.below hb2) (fun hHeld => ?_)
    try (have HN2 := HN.out.below hb2; clear HN; have HN : Hid (NB _ _ _ _ _) := HN2; clear HN2)
    clear hK K hb2
    refine tks 4 ⟨some 30, _, _, _, _, none⟩ rfl ?_
    simp only [za, zb, zc, zd]
    refine tks 5 ⟨some 35, _, _, _, _, none⟩ rfl ?_
    simp only [za, zb, zc, zd]
    refine tks 6 ⟨some 36, _, _, _, _, none⟩ rfl ?_
    simp only [za, zb, zc, zd]
    refine rd 7 ⟨some 8, _, _, _, _, none⟩ rfl (fun K hK => ?_)
    go_simp
    have hH0 := hHeld
    refine hK.out _ _ (hHeld.alloc _) (fun hHeld => ?_)
    have HN : Hid (NB _ _ _ _ [vi ki 0, vi ki 0]) := hH0.nb hHeld
    clear hK K hH0
    refine rd 8 ⟨none, _, _, _, _, none⟩ rfl (fun K hK => ?_)
    refine (if_pos (by kernel_rfl)).mpr (wp_store_mid 36 _ _ rfl _ 0 #[vi ki 0, vi ki 765194400000000] rfl rfl HN.out.1.there (by kernel_rfl) (by simp [Value.oneCell']) (hK.out _ _ (hHeld.off HN.out.2.1 HN.out.2.2 _) (fun hHeld => ?_)))
    have HN2 : Hid (BS w ((_, [vi ki 0, vi ki 765194400000000]) :: [(W5.heap.size, [vi ki 0, vi ki 783304200000000]), (W3.heap.size, [vi ki 0, vi ki 783311400000000]), (W1.heap.size, [vi ki 0, vi ki 783304200000000]), (w.heap.size, T)]) _ ∧ _) := ⟨⟨hHeld.1, fun x hx => by rcases List.mem_cons.1 hx with rfl | hx; exact ⟨HN.out.2.1, HN.out.1.setAll _ rfl⟩; exact hHeld.2 x hx⟩, HN.out.2.2⟩
    clear hK K HN
    refine tks 9 ⟨some 9, _, _, _, _, none⟩ rfl ?_
    simp only [za, zb, zc, zd]
    refine wpAnyH_done (by kernel_rfl) ?_ _
    go_wp2_with fail
    go_meet
    case rel => exact ⟨_, rfl, rfl, HN2.out⟩
   ·
    go_simp
    have hH0 := hHeld
    refine hK.out _ _ (hHeld.alloc _) (fun hHeld => ?_)
    have HN : Hid (NB _ _ _ _ [vi ki 0, vi ki 0]) := hH0.nb hHeld
    clear hK K hH0
    refine rd 3 ⟨some 34, _, _, _, _, none⟩ rfl (fun K hK => ?_)
    go_simp
    refine (Z1.out _ (hL.out _ hHeld.1)).mono ?_
    rintro e v6 ⟨rfl, hb6⟩
    refine hK.out _ _ (hHeld.below hb6) (fun hHeld => ?_)
    try (have HN2 := HN.out.below hb6; clear HN; have HN : Hid (NB _ _ _ _ _) := HN2; clear HN2)
    clear hK K hb6
    refine tks 4 ⟨some 30, _, _, _, _, none⟩ rfl ?_
    simp only [za, zb, zc, zd]
    refine tks 5 ⟨some 35, _, _, _, _, none⟩ rfl ?_
    simp only [za, zb, zc, zd]
    refine tks 6 ⟨some 36, _, _, _, _, none⟩ rfl ?_
    simp only [za, zb, zc, zd]
    refine rd 8 ⟨none, _, _, _, _, none⟩ rfl (fun K hK => ?_)
    refine (if_pos (by kernel_rfl)).mpr (wp_store_mid 36 _ _ rfl _ 0 #[vi ki 0, vi ki 765194400000000] rfl rfl HN.out.1.there (by kernel_rfl) (by simp [Value.oneCell']) (hK.out _ _ (hHeld.off HN.out.2.1 HN.out.2.2 _) (fun hHeld => ?_)))
    have HN2 : Hid (BS w ((_, [vi ki 0, vi ki 765194400000000]) :: [(W5.heap.size, [vi ki 0, vi ki 783304200000000]), (W3.heap.size, [vi ki 0, vi ki 783311400000000]), (W1.heap.size, [vi ki 0, vi ki 783304200000000]), (w.heap.size, T)]) _ ∧ _) := ⟨⟨hHeld.1, fun x hx => by rcases List.mem_cons.1 hx with rfl | hx; exact ⟨HN.out.2.1, HN.out.1.setAll _ rfl⟩; exact hHeld.2 x hx⟩, HN.out.2.2⟩
    clear hK K HN
    refine tks 9 ⟨some 9, _, _, _, _, none⟩ rfl ?_
    simp only [za, zb, zc, zd]
    refine wpAnyH_done (by kernel_rfl) ?_ _
    go_wp2_with fail
    go_meet
    case rel => exact ⟨_, rfl, rfl, HN2.out⟩
  ·
   go_simp
   have hH0 := hHeld
   refine hK.out _ _ (hHeld.alloc _) (fun hHeld => ?_)
   have HN : Hid (NB _ _ _ _ [vi ki 0, vi ki 0]) := hH0.nb hHeld
   clear hK K hH0
   refine rd 1 ⟨some 32, _, _, _, _, none⟩ rfl (fun K hK => ?_)
   go_simp
   refine (AT2.out _).mono ?_
   rintro e v9 ⟨rfl, hb9⟩
   refine hK.out _ _ (hHeld.below hb9) (fun hHeld => ?_)
   try (have HN2 := HN.out.below hb9; clear HN; have HN : Hid (NB _ _ _ _ _) := HN2; clear HN2)
   clear hK K hb9
   refine rd 3 ⟨some 34, _, _, _, _, none⟩ rfl (fun K hK => ?_)
   go_simp
   refine (Z1.out _ (hL.out _ hHeld.1)).mono ?_
   rintro e v10 ⟨rfl, hb10⟩
   refine hK.out _ _ (hHeld.below hb10) (fun hHeld => ?_)
   try (have HN2 := HN.out.below hb10; clear HN; have HN : Hid (NB _ _ _ _ _) := HN2; clear HN2)
   clear hK K hb10
   refine tks 4 ⟨some 30, _, _, _, _, none⟩ rfl ?_
   simp only [za, zb, zc, zd]
   refine tks 5 ⟨some 35, _, _, _, _, none⟩ rfl ?_
   simp only [za, zb, zc, zd]
   refine tks 6 ⟨some 36, _, _, _, _, none⟩ rfl ?_
   simp only [za, zb, zc, zd]
   refine rd 8 ⟨none, _, _, _, _, none⟩ rfl (fun K hK => ?_)
   refine (if_pos (by kernel_rfl)).mpr (wp_store_mid 36 _ _ rfl _ 0 #[vi ki 0, vi ki 765194400000000] rfl rfl HN.out.1.there (by kernel_rfl) (by simp [Value.oneCell']) (hK.out _ _ (hHeld.off HN.out.2.1 HN.out.2.2 _) (fun hHeld => ?_)))
   have HN2 : Hid (BS w ((_, [vi ki 0, vi ki 765194400000000]) :: [(W5.heap.size, [vi ki 0, vi ki 783304200000000]), (W3.heap.size, [vi ki 0, vi ki 783311400000000]), (W1.heap.size, [vi ki 0, vi ki 783304200000000]), (w.heap.size, T)]) _ ∧ _) := ⟨⟨hHeld.1, fun x hx => by rcases List.mem_cons.1 hx with rfl | hx; exact ⟨HN.out.2.1, HN.out.1.setAll _ rfl⟩; exact hHeld.2 x hx⟩, HN.out.2.2⟩
   clear hK K HN
   refine tks 9 ⟨some 9, _, _, _, _, none⟩ rfl ?_
   simp only [za, zb, zc, zd]
   refine wpAnyH_done (by kernel_rfl) ?_ _
   go_wp2_with fail
   go_meet
   case rel => exact ⟨_, rfl, rfl, HN2.out⟩
 case rest =>
  clear c6_0_0 c6_0_1 c6_1_0 c6_1_1 c6_2_0 c6_2_1
  obtain ⟨nb6, rfl, rfl, KK⟩ := hcut
  clear K6
  have K7 : Hid (BS w [(nb6, [vi ki 0, vi ki 765194400000000]), (W5.heap.size, [vi ki 0, vi ki 783304200000000]), (W3.heap.size, [vi ki 0, vi ki 783311400000000]), (W1.heap.size, [vi ki 0, vi ki 783304200000000]), (w.heap.size, T)] wc) := KK.out.1
  have ne7_0 : W5.heap.size ≠ nb6 := KK.out.2 (W5.heap.size, [vi ki 0, vi ki 783304200000000]) (by simp)
  have ne7_1 : W3.heap.size ≠ nb6 := KK.out.2 (W3.heap.size, [vi ki 0, vi ki 783311400000000]) (by simp)
  have ne7_2 : W1.heap.size ≠ nb6 := KK.out.2 (W1.heap.size, [vi ki 0, vi ki 783304200000000]) (by simp)
  have ne7_3 : w.heap.size ≠ nb6 := KK.out.2 (w.heap.size, T) (by simp)
  clear KK
  obtain ⟨c7_0_0, c7_0_1⟩ := (bo1 K7).c2
  obtain ⟨c7_1_0, c7_1_1⟩ := (bo2 K7).c2
  obtain ⟨c7_2_0, c7_2_1⟩ := (bo3 K7).c2
  obtain ⟨c7_3_0, c7_3_1⟩ := (bo4 K7).c2
  go_wp2_with fail
  go_cut [10, 11] (fun v0 v1 wx => ∃ nb, v0 = .pointer (some ⟨nb, 0, none⟩) ∧ v1 = vi ki 0 ∧ Hid (BS w ((nb, [vi ki 0, vi ki 765198000000000]) :: [(nb6, [vi ki 0, vi ki 765194400000000]), (W5.heap.size, [vi ki 0, vi ki 783304200000000]), (W3.heap.size, [vi ki 0, vi ki 783311400000000]), (W1.heap.size, [vi ki 0, vi ki 783304200000000]), (w.heap.size, T)]) wx ∧ (∀ x ∈ [(nb6, [vi ki 0, vi ki 765194400000000]), (W5.heap.size, [vi ki 0, vi ki 783304200000000]), (W3.heap.size, [vi ki 0, vi ki 783311400000000]), (W1.heap.size, [vi ki 0, vi ki 783304200000000]), (w.heap.size, T)], x.1 ≠ nb)))
  case first =>
   refine wp_region_held_drew (S := BS w [(nb6, [vi ki 0, vi ki 765194400000000]), (W5.heap.size, [vi ki 0, vi ki 783304200000000]), (W3.heap.size, [vi ki 0, vi ki 783311400000000]), (W1.heap.size, [vi ki 0, vi ki 783304200000000]), (w.heap.size, T)]) (by kernel_rfl) K7.out.drew (fun hHeld => ?_)
   refine wpAnyH_take (i := 0) (v := .agg UA) (oi := ⟨some 38, _, _, _, _, none⟩) rfl (by kernel_rfl) (by kernel_rfl) (by kernel_rfl) (fun _ _ _ h => h) (Or.inl ⟨by kernel_rfl, ?_⟩) (by assumption) ?_
   case refine_1 => (intro w9 hSw; rw [← hUA]; exact exec_row9 rfl rfl (hSw.at (w.heap.size) T (by simp)).all Tryz.underlying44 rfl (by rw [hT]; kernel_rfl))
   simp only [za, zb, zc, zd]
   refine tks 2 ⟨some 40, _, _, _, _, none⟩ rfl ?_
   simp only [za, zb, zc, zd]
   refine wpAnyH_ready (rs := [1, 7]) (by kernel_rfl) (by simp) (AllReadyH.cons (o := ⟨some 39, _, _, _, _, none⟩) rfl (fun K hK => ?_) (AllReadyH.cons (o := ⟨some 10, _, _, _, _, none⟩) rfl (fun K hK => ?_) AllReadyH.nil))
   ·
    go_simp
    refine (AT2.out _).mono ?_
    rintro e v1 ⟨rfl, hb1⟩
    refine hK.out _ _ (hHeld.below hb1) (fun hHeld => ?_)
    try (have HN2 := HN.out.below hb1; clear HN; have HN : Hid (NB _ _ _ _ _) := HN2; clear HN2)
    clear hK K hb1
    refine wpAnyH_ready (rs := [3, 7]) (by kernel_rfl) (by simp) (AllReadyH.cons (o := ⟨some 41, _, _, _, _, none⟩) rfl (fun K hK => ?_) (AllReadyH.cons (o := ⟨some 10, _, _, _, _, none⟩) rfl (fun K hK => ?_) AllReadyH.nil))
    ·
     go_simp
     refine (Z2.out _ (hL.out _ hHeld.1)).mono ?_
     rintro e v2 ⟨rfl, hb2⟩
     refine hK.out _ _ (hHeld.below hb2) (fun hHeld => ?_)
     try (have HN2 := HN.out.below hb2; clear HN; have HN : Hid (NB _ _ _ _ _) := HN2; clear HN2)
     clear hK K hb2
     refine tks 4 ⟨some 37, _, _, _, _, none⟩ rfl ?_
     simp only [za, zb, zc, zd]
     refine tks 5 ⟨some 42, _, _, _, _, none⟩ rfl ?_
     simp only [za, zb, zc, zd]
     refine tks 6 ⟨some 43, _, _, _, _, none⟩ rfl ?_
     simp only [za, zb, zc, zd]
     refine rd 7 ⟨some 10, _, _, _, _, none⟩ rfl (fun K hK => ?_)
     go_simp
     have hH0 := hHeld
     refine hK.out _ _ (hHeld.alloc _) (fun hHeld => ?_)
     have HN : Hid (NB _ _ _ _ [vi ki 0, vi ki 0]) := hH0.nb hHeld
     clear hK K hH0
     refine rd 8 ⟨none, _, _, _, _, none⟩ rfl (fun K hK => ?_)
     refine (if_pos (by kernel_rfl)).mpr (wp_store_mid 36 _ _ rfl _ 0 #[vi ki 0, vi ki 765198000000000] rfl rfl HN.out.1.there (by kernel_rfl) (by simp [Value.oneCell']) (hK.out _ _ (hHeld.off HN.out.2.1 HN.out.2.2 _) (fun hHeld => ?_)))
     have HN2 : Hid (BS w ((_, [vi ki 0, vi ki 765198000000000]) :: [(nb6, [vi ki 0, vi ki 765194400000000]), (W5.heap.size, [vi ki 0, vi ki 783304200000000]), (W3.heap.size, [vi ki 0, vi ki 783311400000000]), (W1.heap.size, [vi ki 0, vi ki 783304200000000]), (w.heap.size, T)]) _ ∧ _) := ⟨⟨hHeld.1, fun x hx => by rcases List.mem_cons.1 hx with rfl | hx; exact ⟨HN.out.2.1, HN.out.1.setAll _ rfl⟩; exact hHeld.2 x hx⟩, HN.out.2.2⟩
     clear hK K HN
     refine tks 9 ⟨some 11, _, _, _, _, none⟩ rfl ?_
     simp only [za, zb, zc, zd]
     refine wpAnyH_done (by kernel_rfl) ?_ _
     go_wp2_with fail
     go_meet
     case rel => exact ⟨_, rfl, rfl, HN2.out⟩
    ·
     go_simp
     have hH0 := hHeld
     refine hK.out _ _ (hHeld.alloc _) (fun hHeld => ?_)
     have HN : Hid (NB _ _ _ _ [vi ki 0, vi ki 0]) := hH0.nb hHeld
     clear hK K hH0
     refine rd 3 ⟨some 41, _, _, _, _, none⟩ rfl (fun K hK => ?_)
     go_simp
     refine (Z2.out _ (hL.out _ hHeld.1)).mono ?_
     rintro e v6 ⟨rfl, hb6⟩
     refine hK.out _ _ (hHeld.below hb6) (fun hHeld => ?_)
     try (have HN2 := HN.out.below hb6; clear HN; have HN : Hid (NB _ _ _ _ _) := HN2; clear HN2)
     clear hK K hb6
     refine tks 4 ⟨some 37, _, _, _, _, none⟩ rfl ?_
     simp only [za, zb, zc, zd]
     refine tks 5 ⟨some 42, _, _, _, _, none⟩ rfl ?_
     simp only [za, zb, zc, zd]
     refine tks 6 ⟨some 43, _, _, _, _, none⟩ rfl ?_
     simp only [za, zb, zc, zd]
     refine rd 8 ⟨none, _, _, _, _, none⟩ rfl (fun K hK => ?_)
     refine (if_pos (by kernel_rfl)).mpr (wp_store_mid 36 _ _ rfl _ 0 #[vi ki 0, vi ki 765198000000000] rfl rfl HN.out.1.there (by kernel_rfl) (by simp [Value.oneCell']) (hK.out _ _ (hHeld.off HN.out.2.1 HN.out.2.2 _) (fun hHeld => ?_)))
     have HN2 : Hid (BS w ((_, [vi ki 0, vi ki 765198000000000]) :: [(nb6, [vi ki 0, vi ki 765194400000000]), (W5.heap.size, [vi ki 0, vi ki 783304200000000]), (W3.heap.size, [vi ki 0, vi ki 783311400000000]), (W1.heap.size, [vi ki 0, vi ki 783304200000000]), (w.heap.size, T)]) _ ∧ _) := ⟨⟨hHeld.1, fun x hx => by rcases List.mem_cons.1 hx with rfl | hx; exact ⟨HN.out.2.1, HN.out.1.setAll _ rfl⟩; exact hHeld.2 x hx⟩, HN.out.2.2⟩
     clear hK K HN
     refine tks 9 ⟨some 11, _, _, _, _, none⟩ rfl ?_
     simp only [za, zb, zc, zd]
     refine wpAnyH_done (by kernel_rfl) ?_ _
     go_wp2_with fail
     go_meet
     case rel => exact ⟨_, rfl, rfl, HN2.out⟩
   ·
    go_simp
    have hH0 := hHeld
    refine hK.out _ _ (hHeld.alloc _) (fun hHeld => ?_)
    have HN : Hid (NB _ _ _ _ [vi ki 0, vi ki 0]) := hH0.nb hHeld
    clear hK K hH0
    refine rd 1 ⟨some 39, _, _, _, _, none⟩ rfl (fun K hK => ?_)
    go_simp
    refine (AT2.out _).mono ?_
    rintro e v9 ⟨rfl, hb9⟩
    refine hK.out _ _ (hHeld.below hb9) (fun hHeld => ?_)
    try (have HN2 := HN.out.below hb9; clear HN; have HN : Hid (NB _ _ _ _ _) := HN2; clear HN2)
    clear hK K hb9
    refine rd 3 ⟨some 41, _, _, _, _, none⟩ rfl (fun K hK => ?_)
    go_simp
    refine (Z2.out _ (hL.out _ hHeld.1)).mono ?_
    rintro e v10 ⟨rfl, hb10⟩
    refine hK.out _ _ (hHeld.below hb10) (fun hHeld => ?_)
    try (have HN2 := HN.out.below hb10; clear HN; have HN : Hid (NB _ _ _ _ _) := HN2; clear HN2)
    clear hK K hb10
    refine tks 4 ⟨some 37, _, _, _, _, none⟩ rfl ?_
    simp only [za, zb, zc, zd]
    refine tks 5 ⟨some 42, _, _, _, _, none⟩ rfl ?_
    simp only [za, zb, zc, zd]
    refine tks 6 ⟨some 43, _, _, _, _, none⟩ rfl ?_
    simp only [za, zb, zc, zd]
    refine rd 8 ⟨none, _, _, _, _, none⟩ rfl (fun K hK => ?_)
    refine (if_pos (by kernel_rfl)).mpr (wp_store_mid 36 _ _ rfl _ 0 #[vi ki 0, vi ki 765198000000000] rfl rfl HN.out.1.there (by kernel_rfl) (by simp [Value.oneCell']) (hK.out _ _ (hHeld.off HN.out.2.1 HN.out.2.2 _) (fun hHeld => ?_)))
    have HN2 : Hid (BS w ((_, [vi ki 0, vi ki 765198000000000]) :: [(nb6, [vi ki 0, vi ki 765194400000000]), (W5.heap.size, [vi ki 0, vi ki 783304200000000]), (W3.heap.size, [vi ki 0, vi ki 783311400000000]), (W1.heap.size, [vi ki 0, vi ki 783304200000000]), (w.heap.size, T)]) _ ∧ _) := ⟨⟨hHeld.1, fun x hx => by rcases List.mem_cons.1 hx with rfl | hx; exact ⟨HN.out.2.1, HN.out.1.setAll _ rfl⟩; exact hHeld.2 x hx⟩, HN.out.2.2⟩
    clear hK K HN
    refine tks 9 ⟨some 11, _, _, _, _, none⟩ rfl ?_
    simp only [za, zb, zc, zd]
    refine wpAnyH_done (by kernel_rfl) ?_ _
    go_wp2_with fail
    go_meet
    case rel => exact ⟨_, rfl, rfl, HN2.out⟩
  case rest =>
   clear c7_0_0 c7_0_1 c7_1_0 c7_1_1 c7_2_0 c7_2_1 c7_3_0 c7_3_1
   obtain ⟨nb7, rfl, rfl, KK⟩ := hcut
   clear K7
   have K8 : Hid (BS w [(nb7, [vi ki 0, vi ki 765198000000000]), (nb6, [vi ki 0, vi ki 765194400000000]), (W5.heap.size, [vi ki 0, vi ki 783304200000000]), (W3.heap.size, [vi ki 0, vi ki 783311400000000]), (W1.heap.size, [vi ki 0, vi ki 783304200000000]), (w.heap.size, T)] wc) := KK.out.1
   have ne8_0 : nb6 ≠ nb7 := KK.out.2 (nb6, [vi ki 0, vi ki 765194400000000]) (by simp)
   have ne8_1 : W5.heap.size ≠ nb7 := KK.out.2 (W5.heap.size, [vi ki 0, vi ki 783304200000000]) (by simp)
   have ne8_2 : W3.heap.size ≠ nb7 := KK.out.2 (W3.heap.size, [vi ki 0, vi ki 783311400000000]) (by simp)
   have ne8_3 : W1.heap.size ≠ nb7 := KK.out.2 (W1.heap.size, [vi ki 0, vi ki 783304200000000]) (by simp)
   have ne8_4 : w.heap.size ≠ nb7 := KK.out.2 (w.heap.size, T) (by simp)
   clear KK
   obtain ⟨c8_0_0, c8_0_1⟩ := (bo1 K8).c2
   obtain ⟨c8_1_0, c8_1_1⟩ := (bo2 K8).c2
   obtain ⟨c8_2_0, c8_2_1⟩ := (bo3 K8).c2
   obtain ⟨c8_3_0, c8_3_1⟩ := (bo4 K8).c2
   obtain ⟨c8_4_0, c8_4_1⟩ := (bo5 K8).c2
   go_wp2_with (first | (refine wpList_load_mid rfl 44 _ rfl (w.heap.size) 0 rfl T _ (K8.out.at (w.heap.size) T (by simp)).all Tryz.underlying44 rfl (by rw [hT]; kernel_rfl) ?_; rw [hUA]) | fail)
   refine (AT3.out _).mono ?_
   rintro e W9 ⟨rfl, hb⟩
   have K9 := bsb K8 hb
   clear c8_0_0 c8_0_1 c8_1_0 c8_1_1 c8_2_0 c8_2_1 c8_3_0 c8_3_1 c8_4_0 c8_4_1
   clear hb K8
   obtain ⟨c9_0_0, c9_0_1⟩ := (bo1 K9).c2
   obtain ⟨c9_1_0, c9_1_1⟩ := (bo2 K9).c2
   obtain ⟨c9_2_0, c9_2_1⟩ := (bo3 K9).c2
   obtain ⟨c9_3_0, c9_3_1⟩ := (bo4 K9).c2
   obtain ⟨c9_4_0, c9_4_1⟩ := (bo5 K9).c2
   go_wp2_with (first | (refine wpList_load_mid rfl 44 _ rfl (w.heap.size) 0 rfl T _ (K9.out.at (w.heap.size) T (by simp)).all Tryz.underlying44 rfl (by rw [hT]; kernel_rfl) ?_; rw [hUA]) | fail)
   refine (AT4.out _).mono ?_
   rintro e W10 ⟨rfl, hb⟩
   have K10 := bsb K9 hb
   clear c9_0_0 c9_0_1 c9_1_0 c9_1_1 c9_2_0 c9_2_1 c9_3_0 c9_3_1 c9_4_0 c9_4_1
   clear hb K9
   obtain ⟨c10_0_0, c10_0_1⟩ := (bo1 K10).c2
   obtain ⟨c10_1_0, c10_1_1⟩ := (bo2 K10).c2
   obtain ⟨c10_2_0, c10_2_1⟩ := (bo3 K10).c2
   obtain ⟨c10_3_0, c10_3_1⟩ := (bo4 K10).c2
   obtain ⟨c10_4_0, c10_4_1⟩ := (bo5 K10).c2
   go_wp2_with (first | (refine wpList_load_mid rfl 44 _ rfl (w.heap.size) 0 rfl T _ (K10.out.at (w.heap.size) T (by simp)).all Tryz.underlying44 rfl (by rw [hT]; kernel_rfl) ?_; rw [hUA]) | fail)
   refine (AG.out _ (hL.out _ K10.out.1)).mono ?_
   rintro e W11 ⟨rfl, hb⟩
   have K11 := bsb K10 hb
   clear c10_0_0 c10_0_1 c10_1_0 c10_1_1 c10_2_0 c10_2_1 c10_3_0 c10_3_1 c10_4_0 c10_4_1
   clear hb K10
   obtain ⟨c11_0_0, c11_0_1⟩ := (bo1 K11).c2
   obtain ⟨c11_1_0, c11_1_1⟩ := (bo2 K11).c2
   obtain ⟨c11_2_0, c11_2_1⟩ := (bo3 K11).c2
   obtain ⟨c11_3_0, c11_3_1⟩ := (bo4 K11).c2
   obtain ⟨c11_4_0, c11_4_1⟩ := (bo5 K11).c2
   have Mz11 := bsn K11 [vi ki 0, vi ki 1, vi ki 1, vi ki 0] 59
   have lt11_0 := (bo1 K11).1
   have lt11_1 := (bo2 K11).1
   have lt11_2 := (bo3 K11).1
   have lt11_3 := (bo4 K11).1
   have lt11_4 := (bo5 K11).1
   have lt11_5 := (bo6 K11).1
   go_upto_region 8 with fail
   refine bs_to Mz11 ?_
   clear c11_0_0 c11_0_1 c11_1_0 c11_1_1 c11_2_0 c11_2_1 c11_3_0 c11_3_1 c11_4_0 c11_4_1
   intro W12 K12
   clear Mz11 K11
   obtain ⟨c12_0_0, c12_0_1, c12_0_2, c12_0_3⟩ := (bo1 K12).c4
   obtain ⟨c12_1_0, c12_1_1⟩ := (bo2 K12).c2
   obtain ⟨c12_2_0, c12_2_1⟩ := (bo3 K12).c2
   obtain ⟨c12_3_0, c12_3_1⟩ := (bo4 K12).c2
   obtain ⟨c12_4_0, c12_4_1⟩ := (bo5 K12).c2
   obtain ⟨c12_5_0, c12_5_1⟩ := (bo6 K12).c2
   have Mz12 := bsn K12 [vi ki 0, vi ki 1, vi ki 1, vi ki 0] 59
   have lt12_0 := (bo1 K12).1
   have lt12_1 := (bo2 K12).1
   have lt12_2 := (bo3 K12).1
   have lt12_3 := (bo4 K12).1
   have lt12_4 := (bo5 K12).1
   have lt12_5 := (bo6 K12).1
   have lt12_6 := (bo7 K12).1
   go_upto_region 9 with fail
   refine bs_to Mz12 ?_
   clear c12_0_0 c12_0_1 c12_0_2 c12_0_3 c12_1_0 c12_1_1 c12_2_0 c12_2_1 c12_3_0 c12_3_1 c12_4_0 c12_4_1 c12_5_0 c12_5_1
   intro W13 K13
   clear Mz12 K12
   obtain ⟨c13_0_0, c13_0_1, c13_0_2, c13_0_3⟩ := (bo1 K13).c4
   obtain ⟨c13_1_0, c13_1_1, c13_1_2, c13_1_3⟩ := (bo2 K13).c4
   obtain ⟨c13_2_0, c13_2_1⟩ := (bo3 K13).c2
   obtain ⟨c13_3_0, c13_3_1⟩ := (bo4 K13).c2
   obtain ⟨c13_4_0, c13_4_1⟩ := (bo5 K13).c2
   obtain ⟨c13_5_0, c13_5_1⟩ := (bo6 K13).c2
   obtain ⟨c13_6_0, c13_6_1⟩ := (bo7 K13).c2
   go_wp2_with fail
   clear c13_0_0 c13_0_1 c13_0_2 c13_0_3 c13_1_0 c13_1_1 c13_1_2 c13_1_3 c13_2_0 c13_2_1 c13_3_0 c13_3_1 c13_4_0 c13_4_1 c13_5_0 c13_5_1 c13_6_0 c13_6_1
   refine wp_region_held_drew (S := BS w [(W12.heap.size, [vi ki 0, vi ki 1, vi ki 1, vi ki 0]), (W11.heap.size, [vi ki 0, vi ki 1, vi ki 1, vi ki 0]), (nb7, [vi ki 0, vi ki 765198000000000]), (nb6, [vi ki 0, vi ki 765194400000000]), (W5.heap.size, [vi ki 0, vi ki 783304200000000]), (W3.heap.size, [vi ki 0, vi ki 783311400000000]), (W1.heap.size, [vi ki 0, vi ki 783304200000000]), (w.heap.size, T)]) (by kernel_rfl) K13.out.drew (fun hHeld => ?_)
   refine tk (v := ?_) 0 ⟨some 51, _, _, _, _, none⟩ rfl ?_ ?_
   case refine_2 => (intro w9 hSw; obtain ⟨l0_0, l0_1, l0_2, l0_3⟩ := (hSw.at (W12.heap.size) [vi ki 0, vi ki 1, vi ki 1, vi ki 0] (by simp)).c4; obtain ⟨l1_0, l1_1, l1_2, l1_3⟩ := (hSw.at (W11.heap.size) [vi ki 0, vi ki 1, vi ki 1, vi ki 0] (by simp)).c4; obtain ⟨l2_0, l2_1⟩ := (hSw.at (nb7) [vi ki 0, vi ki 765198000000000] (by simp)).c2; obtain ⟨l3_0, l3_1⟩ := (hSw.at (nb6) [vi ki 0, vi ki 765194400000000] (by simp)).c2; obtain ⟨l4_0, l4_1⟩ := (hSw.at (W5.heap.size) [vi ki 0, vi ki 783304200000000] (by simp)).c2; obtain ⟨l5_0, l5_1⟩ := (hSw.at (W3.heap.size) [vi ki 0, vi ki 783311400000000] (by simp)).c2; obtain ⟨l6_0, l6_1⟩ := (hSw.at (W1.heap.size) [vi ki 0, vi ki 783304200000000] (by simp)).c2; clear hSw; go_simp; try with_reducible rfl)
   simp only [za, zb, zc, zd]
   refine rd 1 ⟨some 52, _, _, _, _, none⟩ rfl (fun K hK => ?_)
   go_simp
   refine (AT5.out _).mono ?_
   rintro e v1 ⟨rfl, hb1⟩
   refine hK.out _ _ (hHeld.below hb1) (fun hHeld => ?_)
   clear hK K hb1
   refine tks 2 ⟨some 53, _, _, _, _, none⟩ rfl ?_
   simp only [za, zb, zc, zd]
   refine tks 3 ⟨some 54, _, _, _, _, none⟩ rfl ?_
   simp only [za, zb, zc, zd]
   refine tks 4 ⟨some 55, _, _, _, _, some (3, true)⟩ rfl ?_
   simp only [za, zb, zc, zd]
   refine tks 5 ⟨some 56, _, _, _, _, some (3, true)⟩ rfl ?_
   simp only [za, zb, zc, zd]
   refine tks 6 ⟨some 57, _, _, _, _, none⟩ rfl ?_
   simp only [za, zb, zc, zd]
   refine tks 7 ⟨some 58, _, _, _, _, none⟩ rfl ?_
   simp only [za, zb, zc, zd]
   refine tk (v := ?_) 8 ⟨some 59, _, _, _, _, some (7, true)⟩ rfl ?_ ?_
   case refine_2 => (intro w9 hSw; obtain ⟨l0_0, l0_1, l0_2, l0_3⟩ := (hSw.at (W12.heap.size) [vi ki 0, vi ki 1, vi ki 1, vi ki 0] (by simp)).c4; obtain ⟨l1_0, l1_1, l1_2, l1_3⟩ := (hSw.at (W11.heap.size) [vi ki 0, vi ki 1, vi ki 1, vi ki 0] (by simp)).c4; obtain ⟨l2_0, l2_1⟩ := (hSw.at (nb7) [vi ki 0, vi ki 765198000000000] (by simp)).c2; obtain ⟨l3_0, l3_1⟩ := (hSw.at (nb6) [vi ki 0, vi ki 765194400000000] (by simp)).c2; obtain ⟨l4_0, l4_1⟩ := (hSw.at (W5.heap.size) [vi ki 0, vi ki 783304200000000] (by simp)).c2; obtain ⟨l5_0, l5_1⟩ := (hSw.at (W3.heap.size) [vi ki 0, vi ki 783311400000000] (by simp)).c2; obtain ⟨l6_0, l6_1⟩ := (hSw.at (W1.heap.size) [vi ki 0, vi ki 783304200000000] (by simp)).c2; clear hSw; go_simp; try with_reducible rfl)
   simp only [za, zb, zc, zd]
   refine tk (v := ?_) 9 ⟨some 60, _, _, _, _, some (7, true)⟩ rfl ?_ ?_
   case refine_2 => (intro w9 hSw; obtain ⟨l0_0, l0_1, l0_2, l0_3⟩ := (hSw.at (W12.heap.size) [vi ki 0, vi ki 1, vi ki 1, vi ki 0] (by simp)).c4; obtain ⟨l1_0, l1_1, l1_2, l1_3⟩ := (hSw.at (W11.heap.size) [vi ki 0, vi ki 1, vi ki 1, vi ki 0] (by simp)).c4; obtain ⟨l2_0, l2_1⟩ := (hSw.at (nb7) [vi ki 0, vi ki 765198000000000] (by simp)).c2; obtain ⟨l3_0, l3_1⟩ := (hSw.at (nb6) [vi ki 0, vi ki 765194400000000] (by simp)).c2; obtain ⟨l4_0, l4_1⟩ := (hSw.at (W5.heap.size) [vi ki 0, vi ki 783304200000000] (by simp)).c2; obtain ⟨l5_0, l5_1⟩ := (hSw.at (W3.heap.size) [vi ki 0, vi ki 783311400000000] (by simp)).c2; obtain ⟨l6_0, l6_1⟩ := (hSw.at (W1.heap.size) [vi ki 0, vi ki 783304200000000] (by simp)).c2; clear hSw; go_simp; try with_reducible rfl)
   simp only [za, zb, zc, zd]
   refine tks 10 ⟨some 61, _, _, _, _, some (7, true)⟩ rfl ?_
   simp only [za, zb, zc, zd]
   refine tks 11 ⟨some 62, _, _, _, _, none⟩ rfl ?_
   simp only [za, zb, zc, zd]
   refine tks 12 ⟨some 63, _, _, _, _, none⟩ rfl ?_
   simp only [za, zb, zc, zd]
   refine tks 13 ⟨some 64, _, _, _, _, some (12, true)⟩ rfl ?_
   simp only [za, zb, zc, zd]
   refine tks 14 ⟨some 65, _, _, _, _, some (12, true)⟩ rfl ?_
   simp only [za, zb, zc, zd]
   refine tks 15 ⟨some 66, _, _, _, _, none⟩ rfl ?_
   simp only [za, zb, zc, zd]
   refine tks 16 ⟨some 67, _, _, _, _, none⟩ rfl ?_
   simp only [za, zb, zc, zd]
   refine tks 17 ⟨some 68, _, _, _, _, some (16, true)⟩ rfl ?_
   simp only [za, zb, zc, zd]
   refine tks 18 ⟨some 69, _, _, _, _, some (16, true)⟩ rfl ?_
   simp only [za, zb, zc, zd]
   refine tks 19 ⟨some 70, _, _, _, _, none⟩ rfl ?_
   simp only [za, zb, zc, zd]
   refine tks 20 ⟨some 71, _, _, _, _, none⟩ rfl ?_
   simp only [za, zb, zc, zd]
   refine tk (v := ?_) 21 ⟨some 72, _, _, _, _, some (20, true)⟩ rfl ?_ ?_
   case refine_2 => (intro w9 hSw; obtain ⟨l0_0, l0_1, l0_2, l0_3⟩ := (hSw.at (W12.heap.size) [vi ki 0, vi ki 1, vi ki 1, vi ki 0] (by simp)).c4; obtain ⟨l1_0, l1_1, l1_2, l1_3⟩ := (hSw.at (W11.heap.size) [vi ki 0, vi ki 1, vi ki 1, vi ki 0] (by simp)).c4; obtain ⟨l2_0, l2_1⟩ := (hSw.at (nb7) [vi ki 0, vi ki 765198000000000] (by simp)).c2; obtain ⟨l3_0, l3_1⟩ := (hSw.at (nb6) [vi ki 0, vi ki 765194400000000] (by simp)).c2; obtain ⟨l4_0, l4_1⟩ := (hSw.at (W5.heap.size) [vi ki 0, vi ki 783304200000000] (by simp)).c2; obtain ⟨l5_0, l5_1⟩ := (hSw.at (W3.heap.size) [vi ki 0, vi ki 783311400000000] (by simp)).c2; obtain ⟨l6_0, l6_1⟩ := (hSw.at (W1.heap.size) [vi ki 0, vi ki 783304200000000] (by simp)).c2; clear hSw; go_simp; try with_reducible rfl)
   simp only [za, zb, zc, zd]
   refine rd 22 ⟨some 73, _, _, _, _, some (20, true)⟩ rfl (fun K hK => ?_)
   go_simp
   refine (AT6.out _).mono ?_
   rintro e v2 ⟨rfl, hb2⟩
   refine hK.out _ _ (hHeld.below hb2) (fun hHeld => ?_)
   clear hK K hb2
   refine tks 23 ⟨some 74, _, _, _, _, some (20, true)⟩ rfl ?_
   simp only [za, zb, zc, zd]
   refine tks 24 ⟨some 75, _, _, _, _, none⟩ rfl ?_
   simp only [za, zb, zc, zd]
   refine tks 25 ⟨some 76, _, _, _, _, none⟩ rfl ?_
   simp only [za, zb, zc, zd]
   refine tks 26 ⟨some 77, _, _, _, _, some (25, true)⟩ rfl ?_
   simp only [za, zb, zc, zd]
   refine tks 27 ⟨some 78, _, _, _, _, some (25, true)⟩ rfl ?_
   simp only [za, zb, zc, zd]
   refine tks 28 ⟨some 79, _, _, _, _, none⟩ rfl ?_
   simp only [za, zb, zc, zd]
   refine tks 29 ⟨some 80, _, _, _, _, none⟩ rfl ?_
   simp only [za, zb, zc, zd]
   refine tk (v := ?_) 30 ⟨some 81, _, _, _, _, some (29, true)⟩ rfl ?_ ?_
   case refine_2 => (intro w9 hSw; obtain ⟨l0_0, l0_1, l0_2, l0_3⟩ := (hSw.at (W12.heap.size) [vi ki 0, vi ki 1, vi ki 1, vi ki 0] (by simp)).c4; obtain ⟨l1_0, l1_1, l1_2, l1_3⟩ := (hSw.at (W11.heap.size) [vi ki 0, vi ki 1, vi ki 1, vi ki 0] (by simp)).c4; obtain ⟨l2_0, l2_1⟩ := (hSw.at (nb7) [vi ki 0, vi ki 765198000000000] (by simp)).c2; obtain ⟨l3_0, l3_1⟩ := (hSw.at (nb6) [vi ki 0, vi ki 765194400000000] (by simp)).c2; obtain ⟨l4_0, l4_1⟩ := (hSw.at (W5.heap.size) [vi ki 0, vi ki 783304200000000] (by simp)).c2; obtain ⟨l5_0, l5_1⟩ := (hSw.at (W3.heap.size) [vi ki 0, vi ki 783311400000000] (by simp)).c2; obtain ⟨l6_0, l6_1⟩ := (hSw.at (W1.heap.size) [vi ki 0, vi ki 783304200000000] (by simp)).c2; clear hSw; go_simp; try with_reducible rfl)
   simp only [za, zb, zc, zd]
   refine rd 31 ⟨some 82, _, _, _, _, some (29, true)⟩ rfl (fun K hK => ?_)
   go_simp
   refine (AT7.out _).mono ?_
   rintro e v3 ⟨rfl, hb3⟩
   refine hK.out _ _ (hHeld.below hb3) (fun hHeld => ?_)
   clear hK K hb3
   refine tks 32 ⟨some 83, _, _, _, _, some (29, true)⟩ rfl ?_
   simp only [za, zb, zc, zd]
   refine tks 33 ⟨some 84, _, _, _, _, none⟩ rfl ?_
   simp only [za, zb, zc, zd]
   refine tks 34 ⟨some 85, _, _, _, _, none⟩ rfl ?_
   simp only [za, zb, zc, zd]
   refine tks 35 ⟨some 86, _, _, _, _, some (34, true)⟩ rfl ?_
   simp only [za, zb, zc, zd]
   refine tks 36 ⟨some 87, _, _, _, _, some (34, true)⟩ rfl ?_
   simp only [za, zb, zc, zd]
   refine tks 37 ⟨some 88, _, _, _, _, none⟩ rfl ?_
   simp only [za, zb, zc, zd]
   refine tks 38 ⟨some 89, _, _, _, _, none⟩ rfl ?_
   simp only [za, zb, zc, zd]
   refine tk (v := ?_) 39 ⟨some 90, _, _, _, _, some (38, true)⟩ rfl ?_ ?_
   case refine_2 => (intro w9 hSw; obtain ⟨l0_0, l0_1, l0_2, l0_3⟩ := (hSw.at (W12.heap.size) [vi ki 0, vi ki 1, vi ki 1, vi ki 0] (by simp)).c4; obtain ⟨l1_0, l1_1, l1_2, l1_3⟩ := (hSw.at (W11.heap.size) [vi ki 0, vi ki 1, vi ki 1, vi ki 0] (by simp)).c4; obtain ⟨l2_0, l2_1⟩ := (hSw.at (nb7) [vi ki 0, vi ki 765198000000000] (by simp)).c2; obtain ⟨l3_0, l3_1⟩ := (hSw.at (nb6) [vi ki 0, vi ki 765194400000000] (by simp)).c2; obtain ⟨l4_0, l4_1⟩ := (hSw.at (W5.heap.size) [vi ki 0, vi ki 783304200000000] (by simp)).c2; obtain ⟨l5_0, l5_1⟩ := (hSw.at (W3.heap.size) [vi ki 0, vi ki 783311400000000] (by simp)).c2; obtain ⟨l6_0, l6_1⟩ := (hSw.at (W1.heap.size) [vi ki 0, vi ki 783304200000000] (by simp)).c2; clear hSw; go_simp; try with_reducible rfl)
   simp only [za, zb, zc, zd]
   refine tk (v := ?_) 40 ⟨some 91, _, _, _, _, some (38, true)⟩ rfl ?_ ?_
   case refine_2 => (intro w9 hSw; obtain ⟨l0_0, l0_1, l0_2, l0_3⟩ := (hSw.at (W12.heap.size) [vi ki 0, vi ki 1, vi ki 1, vi ki 0] (by simp)).c4; obtain ⟨l1_0, l1_1, l1_2, l1_3⟩ := (hSw.at (W11.heap.size) [vi ki 0, vi ki 1, vi ki 1, vi ki 0] (by simp)).c4; obtain ⟨l2_0, l2_1⟩ := (hSw.at (nb7) [vi ki 0, vi ki 765198000000000] (by simp)).c2; obtain ⟨l3_0, l3_1⟩ := (hSw.at (nb6) [vi ki 0, vi ki 765194400000000] (by simp)).c2; obtain ⟨l4_0, l4_1⟩ := (hSw.at (W5.heap.size) [vi ki 0, vi ki 783304200000000] (by simp)).c2; obtain ⟨l5_0, l5_1⟩ := (hSw.at (W3.heap.size) [vi ki 0, vi ki 783311400000000] (by simp)).c2; obtain ⟨l6_0, l6_1⟩ := (hSw.at (W1.heap.size) [vi ki 0, vi ki 783304200000000] (by simp)).c2; clear hSw; go_simp; try with_reducible rfl)
   simp only [za, zb, zc, zd]
   refine tks 41 ⟨some 92, _, _, _, _, some (38, true)⟩ rfl ?_
   simp only [za, zb, zc, zd]
   refine tks 42 ⟨some 93, _, _, _, _, none⟩ rfl ?_
   simp only [za, zb, zc, zd]
   refine tks 43 ⟨some 94, _, _, _, _, none⟩ rfl ?_
   simp only [za, zb, zc, zd]
   refine tks 44 ⟨some 95, _, _, _, _, some (43, true)⟩ rfl ?_
   simp only [za, zb, zc, zd]
   refine tks 45 ⟨some 96, _, _, _, _, some (43, true)⟩ rfl ?_
   simp only [za, zb, zc, zd]
   refine tks 46 ⟨some 97, _, _, _, _, none⟩ rfl ?_
   simp only [za, zb, zc, zd]
   refine tks 47 ⟨some 0, _, _, _, _, none⟩ rfl ?_
   simp only [Act.put, List.setIfInBounds_toArray, List.set_cons_zero]
   refine wpAnyH_done (by kernel_rfl) ?_ _
   have HB : Hid (Below w.heap.size w _) := hHeld.1
   clear hHeld
   go_wp2
   go_ret
   exact ⟨rfl, HB0.out.trans (HB.out.mono HB0.out.size)⟩
end Go.Proofs.YtklehbmghjcmaaaGreatDoor
