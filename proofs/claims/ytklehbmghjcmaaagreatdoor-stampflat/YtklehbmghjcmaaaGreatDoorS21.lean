import Derived.Test.YtklehbmghjcmaaaGreatDoorSz
import Derived.Test.YtklehbmghjcmaaaGreatDoorS2
import Derived.Test.YtklehbmghjcmaaaGreatDoorS20
import Derived.Deep.Cut
import Derived.Deep.CutRange
import Derived.Deep.DeepCutAuto
import Derived.Deep.RegionHeld3
import Derived.Test.YtklehbmghjcmaaaGreatDoorS6
import Derived.Test.YtklehbmghjcmaaaGreatDoorS3
import Derived.Test.YtklehbmghjcmaaaGreatDoorS19
open Go.Value renaming int → vi
open Go.IntKind renaming i64 → ki
open List renaming setIfInBounds_toArray → zb, set_cons_zero → zc, set_cons_succ → zd
open Go.Act renaming put → za
open Go.Ending renaming returned → zr
set_option maxRecDepth 100000
set_option maxHeartbeats 16000000
set_option linter.unusedVariables false
namespace Go.Proofs.YtklehbmghjcmaaaGreatDoor
open Go.RowKit Sr
def FlatIs (T : List Value) (Ok : World → Prop) (i u n I V E : Int) : Prop := ∀ w : World, Ok w → Calls Tryz.prog 19 #[.agg T.toArray, .agg #[vi ki i, vi ki u], .agg #[vi ki 0, vi ki 0, vi ki 0, vi ki n]] w fun r w' => r = zr (.tuple #[.agg #[vi ki I, vi ki V], vi ki E]) ∧ Below w.heap.size w w'
theorem sf_run (P0 : World → Prop) (Z UT : List Value) (hZ : Z.length = 25) (i u n d D N I V E J X G L Y H : Int) (rb : Bool) (hd : d.tmod 10000 = D) (hN : IntKind.i64.wrap (D * 86400000000) = N) (hF : G ≠ 0 ∨ H ≠ 0 ∨ (L = J ∧ Y = X))
  (RR : Hid (∀ w : World, P0 w → Calls Tryz.prog 21 #[.agg Z.toArray] w fun r w' => r = zr (.bool rb) ∧ Below w.heap.size w w'))
  (GV : Hid (∀ w : World, P0 w → Calls Tryz.prog 9 #[.agg Z.toArray] w fun e w' => ∃ (T : List Value) (Ok : World → Prop), e = zr (.agg T.toArray) ∧ T.length = 25 ∧ T.toArray.all (·.oneCell') = true ∧ Ok w' ∧ (∀ A B : World, Ok A → Below A.heap.size A B → Ok B) ∧ (∀ A : World, Ok A → Ok A.drew) ∧ Below w.heap.size w w' ∧ (rb = true → n ≠ -9223372036854775808 → FlatIs T Ok i u n I V E)))
  (A1 : Hid (∀ w : World, P0 w → Calls Tryz.prog 17 #[.agg #[vi ki i, vi ki u], .agg #[vi ki 0, vi ki 0, vi ki 0, vi ki n]] w fun r w' => r = zr (.tuple #[.agg #[vi ki I, vi ki V], vi ki E]) ∧ Below w.heap.size w w'))
  (UC : Hid (∀ w : World, Calls Tryz.prog 22 #[] w fun r w' => r = zr (.agg UT.toArray) ∧ Below w.heap.size w w'))
  (A2 : Hid (∀ w : World, P0 w → Calls Tryz.prog 19 #[.agg UT.toArray, .agg #[vi ki i, vi ki u], .agg #[vi ki 0, vi ki 0, vi ki D, vi ki 0]] w fun r w' => r = zr (.tuple #[.agg #[vi ki J, vi ki X], vi ki G]) ∧ Below w.heap.size w w'))
  (A3 : Hid (∀ w : World, P0 w → Calls Tryz.prog 17 #[.agg #[vi ki i, vi ki u], .agg #[vi ki 0, vi ki 0, vi ki 0, vi ki N]] w fun r w' => r = zr (.tuple #[.agg #[vi ki L, vi ki Y], vi ki H]) ∧ Below w.heap.size w w'))
  (PR : Hid (∀ w : World, P0 w → Calls Tryz.prog 23 #[.agg #[vi ki 0, vi ki 0, vi ki D, vi ki 0]] w fun r w' => r = zr (.bool true) ∧ Below w.heap.size w w'))
  (KN : Hid (∀ w : World, P0 w → Calls Tryz.prog 16 #[] w fun r w' => r = zr (.bool true) ∧ Below w.heap.size w w')) (w : World) (hL : Hid (∀ W : World, Below w.heap.size w W → P0 W)) :
  Calls Tryz.prog 6 #[.agg Z.toArray, .agg #[vi ki i, vi ki u], vi ki n, vi ki d] w fun r w' => r = zr (.bool true) ∧ Below w.heap.size w w' := by
 generalize hUA : UT.toArray = UA at *
 clear hUA
 have K0 := bsn2 w Z 34 [vi ki i, vi ki u] 36
 go_enter Tryz.func6, Tryz.ntmps6
 generalize hZA : Z.toArray = ZA at *
 go_upto_region 1 with fail
 refine bs_to K0 ?_
 clear K0
 intro W0 K0
 go_wp2_with (first | (refine wpList_load_mid rfl 34 _ rfl (w.heap.size) 0 rfl Z _ (K0.out.at (w.heap.size) Z (by simp)).all Tryz.underlying34 rfl (by rw [hZ]; kernel_rfl) ?_; rw [hZA]) | fail)
 refine (GV.out _ (hL.out _ K0.out.1)).mono ?_
 rintro e W1 ⟨T, Ok, rfl, hTl, hT1, hok, hokb, hokd, hb, hout⟩
 have K1 := bsb K0 hb
 have HOK : Hid (Ok W1) := hok
 have HOB : Hid (∀ A B : World, Ok A → Below A.heap.size A B → Ok B) := hokb
 have HOUT : Hid (rb = true → n ≠ -9223372036854775808 → FlatIs T Ok i u n I V E) := hout
 clear hb K0 hok hokb hokd hout
 have X2 : Hid (Bx (W1.alloc (.cells zeT.toArray 44)) W1.heap.size zeT) := Bx.new W1 zeT _
 have hsz := K1.out.1.size
 have lt0 := (K1.out.at (w.heap.size + 1) [vi ki i, vi ki u] (by simp)).1
 have lt1 := (K1.out.at (w.heap.size) Z (by simp)).1
 generalize hTA : T.toArray = TA at *
 have hTs : TA.size = 25 := by rw [← hTA]; exact hTl
 have hgo : BS w ((W1.heap.size, T) :: [(w.heap.size + 1, [vi ki i, vi ki u]), (w.heap.size, Z)]) ((W1.alloc (.cells zeT.toArray 44)).setCells W1.heap.size 0 TA.toList) ∧ Ok ((W1.alloc (.cells zeT.toArray 44)).setCells W1.heap.size 0 TA.toList) := by
  have ht : TA.toList = T := by rw [← hTA]
  rw [ht]
  refine ⟨K1.out.push zeT T 44 (by rw [hTl]; rfl), HOB.out _ _ HOK.out ?_⟩
  exact below_setCells (w := W1) (Nat.le_refl _) T _ 0 ((Below.refl _ W1).alloc (Nat.le_refl _) _)
 go_upto_region 2 with (refine wpList_store_mid rfl 44 _ _ rfl W1.heap.size 0 TA rfl rfl (by rw [hTs]; exact X2.out.there) (by rw [hTs]; kernel_rfl) hT1 ?_; refine gen_list (fun WX => BS w ((W1.heap.size, T) :: [(w.heap.size + 1, [vi ki i, vi ki u]), (w.heap.size, Z)]) WX ∧ Ok WX) hgo ?_; rintro W2 ⟨KV', OV'⟩)
 have K2 : Hid (BS w ((W1.heap.size, T) :: [(w.heap.size + 1, [vi ki i, vi ki u]), (w.heap.size, Z)]) W2) := KV'
 have HO2 : Hid (Ok W2) := OV'
 clear KV' OV' hgo X2 K1 HOK hTs
 obtain ⟨ob, hob⟩ : ∃ ob, W1.heap.size = ob := ⟨_, rfl⟩
 rw [hob] at K2 lt0 lt1 ⊢
 clear hob
 go_wp2_with (first | (refine wpList_load_mid rfl 34 _ rfl (w.heap.size) 0 rfl Z _ (K2.out.at (w.heap.size) Z (by simp)).all Tryz.underlying34 rfl (by rw [hZ]; kernel_rfl) ?_; rw [hZA]) | fail)
 refine (RR.out _ (hL.out _ K2.out.1)).mono ?_
 rintro e W3 ⟨rfl, hb⟩
 have K3 := bsb K2 hb
 have HO3 : Hid (Ok W3) := HOB.out _ _ HO2.out hb
 clear hb K2 HO2
 cases rb
 ·go_wp2_with fail
  refine (KN.out _ (hL.out _ K3.out.1)).mono ?_
  rintro e W99 ⟨rfl, hb⟩
  have K99 := bsb K3 hb
  clear hb
  go_wp2_with fail
  go_ret
  exact ⟨rfl, K99.out.1⟩
 ·rcases Classical.em (n = -9223372036854775808) with rfl | hn
  ·go_wp2_with fail
   refine (KN.out _ (hL.out _ K3.out.1)).mono ?_
   rintro e W99 ⟨rfl, hb⟩
   have K99 := bsb K3 hb
   clear hb
   go_wp2_with fail
   go_ret
   exact ⟨rfl, K99.out.1⟩
  ·have q0 : (n == -9223372036854775808) = false := by simpa using hn
   have hAZ : FlatIs T Ok i u n I V E := HOUT.out rfl hn
   unfold FlatIs at hAZ
   have AZ' : ∀ w : World, Ok w → Calls Tryz.prog 19 #[.agg TA, .agg #[vi ki i, vi ki u], .agg #[vi ki 0, vi ki 0, vi ki 0, vi ki n]] w fun r w' => r = zr (.tuple #[.agg #[vi ki I, vi ki V], vi ki E]) ∧ Below w.heap.size w w' := by rw [← hTA]; exact hAZ
   have AZ : Hid (∀ w : World, Ok w → Calls Tryz.prog 19 #[.agg TA, .agg #[vi ki i, vi ki u], .agg #[vi ki 0, vi ki 0, vi ki 0, vi ki n]] w fun r w' => r = zr (.tuple #[.agg #[vi ki I, vi ki V], vi ki E]) ∧ Below w.heap.size w w') := AZ'
   clear AZ' hAZ HOUT
   obtain ⟨c1_0, c1_1⟩ := (bo2 K3).c2
   go_wp2_with (first | (refine wpList_load_mid rfl 44 _ rfl ob 0 rfl T _ (K3.out.at ob T (by simp)).all Tryz.underlying44 rfl (by rw [hTl]; kernel_rfl) ?_; rw [hTA]) | fail)
   refine (AZ.out _ HO3.out).mono ?_
   rintro e W4 ⟨rfl, hb⟩
   have K4 := bsb K3 hb
   have HO4 : Hid (Ok W4) := HOB.out _ _ HO3.out hb
   clear hb K3 HO3
   clear c1_0 c1_1
   have M4 := bsn K4 [vi ki I, vi ki V] 36
   have N4 : Hid (Ok (W4.alloc (.cells #[vi ki I, vi ki V] 36))) := HOB.out _ _ HO4.out ((Below.refl _ W4).alloc (Nat.le_refl _) _)
   have lt4_0 := (K4.out.at (ob) T (by simp)).1
   have lt4_1 := (bo2 K4).1
   have lt4_2 := (K4.out.at (w.heap.size) Z (by simp)).1
   go_upto_region 5 with fail
   refine gen_code (fun WX => BS w ((W4.heap.size, [vi ki I, vi ki V]) :: [(ob, T), (w.heap.size + 1, [vi ki i, vi ki u]), (w.heap.size, Z)]) WX ∧ Ok WX) ⟨M4.out, N4.out⟩ ?_
   rintro W5 ⟨k9, o9⟩
   have K5 : Hid (BS w ((W4.heap.size, [vi ki I, vi ki V]) :: [(ob, T), (w.heap.size + 1, [vi ki i, vi ki u]), (w.heap.size, Z)]) W5) := k9
   have HO5 : Hid (Ok W5) := o9
   clear k9 o9 M4 N4 K4 HO4
   obtain ⟨c2_0, c2_1⟩ := (bo3 K5).c2
   go_wp2_with fail
   refine (A1.out _ (hL.out _ K5.out.1)).mono ?_
   rintro e W6 ⟨rfl, hb⟩
   have K6 := bsb K5 hb
   have HO6 : Hid (Ok W6) := HOB.out _ _ HO5.out hb
   clear hb K5 HO5
   clear c2_0 c2_1
   have M6 := bsn K6 [vi ki I, vi ki V] 36
   have N6 : Hid (Ok (W6.alloc (.cells #[vi ki I, vi ki V] 36))) := HOB.out _ _ HO6.out ((Below.refl _ W6).alloc (Nat.le_refl _) _)
   have lt6_0 := (bo1 K6).1
   have lt6_1 := (K6.out.at (ob) T (by simp)).1
   have lt6_2 := (bo3 K6).1
   have lt6_3 := (K6.out.at (w.heap.size) Z (by simp)).1
   go_upto_region 6 with fail
   refine gen_code (fun WX => BS w ((W6.heap.size, [vi ki I, vi ki V]) :: [(W4.heap.size, [vi ki I, vi ki V]), (ob, T), (w.heap.size + 1, [vi ki i, vi ki u]), (w.heap.size, Z)]) WX ∧ Ok WX) ⟨M6.out, N6.out⟩ ?_
   rintro W7 ⟨k9, o9⟩
   have K7 : Hid (BS w ((W6.heap.size, [vi ki I, vi ki V]) :: [(W4.heap.size, [vi ki I, vi ki V]), (ob, T), (w.heap.size + 1, [vi ki i, vi ki u]), (w.heap.size, Z)]) W7) := k9
   have HO7 : Hid (Ok W7) := o9
   clear k9 o9 M6 N6 K6 HO6
   obtain ⟨c0_0, c0_1⟩ := (bo1 K7).c2
   obtain ⟨c1_0, c1_1⟩ := (bo2 K7).c2
   go_upto_region 9 with fail
   clear c0_0 c0_1 c1_0 c1_1
   go_cut [14, 15] (fun v0 v1 wx => ∃ nb, v0 = .pointer (some ⟨nb, 0, none⟩) ∧ v1 = vi ki G ∧ Hid (BS w ((nb, [vi ki J, vi ki X]) :: [(W6.heap.size, [vi ki I, vi ki V]), (W4.heap.size, [vi ki I, vi ki V]), (ob, T), (w.heap.size + 1, [vi ki i, vi ki u]), (w.heap.size, Z)]) wx ∧ (∀ x ∈ ([(W6.heap.size, [vi ki I, vi ki V]), (W4.heap.size, [vi ki I, vi ki V]), (ob, T), (w.heap.size + 1, [vi ki i, vi ki u]), (w.heap.size, Z)] : List (Nat × List Value)), x.1 ≠ nb)))
   case first =>
    refine wp_region_held_drew (S := BS w [(W6.heap.size, [vi ki I, vi ki V]), (W4.heap.size, [vi ki I, vi ki V]), (ob, T), (w.heap.size + 1, [vi ki i, vi ki u]), (w.heap.size, Z)]) (by kernel_rfl) K7.out.drew (fun hHeld => ?_)
    refine tk (v := ?_) 1 ⟨some 55, _, _, _, _, none⟩ rfl ?_ ?_
    case refine_2 => (intro w9 hSw; obtain ⟨l0_0, l0_1⟩ := (hSw.at (W6.heap.size) [vi ki I, vi ki V] (by simp)).c2; obtain ⟨l1_0, l1_1⟩ := (hSw.at (W4.heap.size) [vi ki I, vi ki V] (by simp)).c2; obtain ⟨l3_0, l3_1⟩ := (hSw.at (w.heap.size + 1) [vi ki i, vi ki u] (by simp)).c2; clear hSw; go_simp; try with_reducible rfl)
    simp only [za, zb, zc, zd]
    refine tks 2 ⟨some 56, _, _, _, _, none⟩ rfl ?_
    simp only [za, zb, zc, zd]
    refine tks 3 ⟨some 57, _, _, _, _, none⟩ rfl ?_
    simp only [za, zb, zc, zd]
    refine wpAnyH_ready (rs := [0, 8]) (by kernel_rfl) (by simp) (AllReadyH.cons (o := ⟨some 54, _, _, _, _, none⟩) rfl (fun K hK => ?_) (AllReadyH.cons (o := ⟨some 14, _, _, _, _, none⟩) rfl (fun K hK => ?_) AllReadyH.nil))
    ·
     go_simp
     refine (UC.out _).mono ?_
     rintro e v1 ⟨rfl, hb1⟩
     refine hK.out _ _ (hHeld.below hb1) (fun hHeld => ?_)
     try (have HN2 := HN.out.below hb1; clear HN; have HN : Hid (NB _ _ _ _ _) := HN2; clear HN2)
     clear hK K hb1
     refine wpAnyH_ready (rs := [4, 8]) (by kernel_rfl) (by simp) (AllReadyH.cons (o := ⟨some 58, _, _, _, _, none⟩) rfl (fun K hK => ?_) (AllReadyH.cons (o := ⟨some 14, _, _, _, _, none⟩) rfl (fun K hK => ?_) AllReadyH.nil))
     ·
      go_simp
      refine (A2.out _ (hL.out _ hHeld.1)).mono ?_
      rintro e v2 ⟨rfl, hb2⟩
      refine hK.out _ _ (hHeld.below hb2) (fun hHeld => ?_)
      try (have HN2 := HN.out.below hb2; clear HN; have HN : Hid (NB _ _ _ _ _) := HN2; clear HN2)
      clear hK K hb2
      refine tks 5 ⟨some 53, _, _, _, _, none⟩ rfl ?_
      simp only [za, zb, zc, zd]
      refine tks 6 ⟨some 59, _, _, _, _, none⟩ rfl ?_
      simp only [za, zb, zc, zd]
      refine tks 7 ⟨some 60, _, _, _, _, none⟩ rfl ?_
      simp only [za, zb, zc, zd]
      refine rd 8 ⟨some 14, _, _, _, _, none⟩ rfl (fun K hK => ?_)
      go_simp
      have hH0 := hHeld
      refine hK.out _ _ (hHeld.alloc _) (fun hHeld => ?_)
      have HN : Hid (NB _ _ _ _ [vi ki 0, vi ki 0]) := hH0.nb hHeld
      clear hK K hH0
      refine rd 9 ⟨none, _, _, _, _, none⟩ rfl (fun K hK => ?_)
      refine (if_pos (by kernel_rfl)).mpr (wp_store_mid 36 _ _ rfl _ 0 #[vi ki J, vi ki X] rfl rfl HN.out.1.there (by kernel_rfl) (by simp [Value.oneCell']) (hK.out _ _ (hHeld.off HN.out.2.1 HN.out.2.2 _) (fun hHeld => ?_)))
      have HN2 : Hid (BS w ((_, [vi ki J, vi ki X]) :: [(W6.heap.size, [vi ki I, vi ki V]), (W4.heap.size, [vi ki I, vi ki V]), (ob, T), (w.heap.size + 1, [vi ki i, vi ki u]), (w.heap.size, Z)]) _ ∧ _) := ⟨⟨hHeld.1, fun x hx => by rcases List.mem_cons.1 hx with rfl | hx; exact ⟨HN.out.2.1, HN.out.1.setAll _ rfl⟩; exact hHeld.2 x hx⟩, HN.out.2.2⟩
      clear hK K HN
      refine tks 10 ⟨some 15, _, _, _, _, none⟩ rfl ?_
      simp only [za, zb, zc, zd]
      refine wpAnyH_done (by kernel_rfl) ?_ _
      go_wp2_with fail
      go_meet
      case rel => exact ⟨_, rfl, rfl, HN2.out⟩
     ·
      go_simp
      have hH0 := hHeld
      refine hK.out _ _ (hHeld.alloc _) (fun hHeld => ?_)
      have HN : Hid (NB _ _ _ _ [vi ki 0, vi ki 0]) := hH0.nb hHeld
      clear hK K hH0
      refine rd 4 ⟨some 58, _, _, _, _, none⟩ rfl (fun K hK => ?_)
      go_simp
      refine (A2.out _ (hL.out _ hHeld.1)).mono ?_
      rintro e v6 ⟨rfl, hb6⟩
      refine hK.out _ _ (hHeld.below hb6) (fun hHeld => ?_)
      try (have HN2 := HN.out.below hb6; clear HN; have HN : Hid (NB _ _ _ _ _) := HN2; clear HN2)
      clear hK K hb6
      refine tks 5 ⟨some 53, _, _, _, _, none⟩ rfl ?_
      simp only [za, zb, zc, zd]
      refine tks 6 ⟨some 59, _, _, _, _, none⟩ rfl ?_
      simp only [za, zb, zc, zd]
      refine tks 7 ⟨some 60, _, _, _, _, none⟩ rfl ?_
      simp only [za, zb, zc, zd]
      refine rd 9 ⟨none, _, _, _, _, none⟩ rfl (fun K hK => ?_)
      refine (if_pos (by kernel_rfl)).mpr (wp_store_mid 36 _ _ rfl _ 0 #[vi ki J, vi ki X] rfl rfl HN.out.1.there (by kernel_rfl) (by simp [Value.oneCell']) (hK.out _ _ (hHeld.off HN.out.2.1 HN.out.2.2 _) (fun hHeld => ?_)))
      have HN2 : Hid (BS w ((_, [vi ki J, vi ki X]) :: [(W6.heap.size, [vi ki I, vi ki V]), (W4.heap.size, [vi ki I, vi ki V]), (ob, T), (w.heap.size + 1, [vi ki i, vi ki u]), (w.heap.size, Z)]) _ ∧ _) := ⟨⟨hHeld.1, fun x hx => by rcases List.mem_cons.1 hx with rfl | hx; exact ⟨HN.out.2.1, HN.out.1.setAll _ rfl⟩; exact hHeld.2 x hx⟩, HN.out.2.2⟩
      clear hK K HN
      refine tks 10 ⟨some 15, _, _, _, _, none⟩ rfl ?_
      simp only [za, zb, zc, zd]
      refine wpAnyH_done (by kernel_rfl) ?_ _
      go_wp2_with fail
      go_meet
      case rel => exact ⟨_, rfl, rfl, HN2.out⟩
    ·
     go_simp
     have hH0 := hHeld
     refine hK.out _ _ (hHeld.alloc _) (fun hHeld => ?_)
     have HN : Hid (NB _ _ _ _ [vi ki 0, vi ki 0]) := hH0.nb hHeld
     clear hK K hH0
     refine rd 0 ⟨some 54, _, _, _, _, none⟩ rfl (fun K hK => ?_)
     go_simp
     refine (UC.out _).mono ?_
     rintro e v9 ⟨rfl, hb9⟩
     refine hK.out _ _ (hHeld.below hb9) (fun hHeld => ?_)
     try (have HN2 := HN.out.below hb9; clear HN; have HN : Hid (NB _ _ _ _ _) := HN2; clear HN2)
     clear hK K hb9
     refine rd 4 ⟨some 58, _, _, _, _, none⟩ rfl (fun K hK => ?_)
     go_simp
     refine (A2.out _ (hL.out _ hHeld.1)).mono ?_
     rintro e v10 ⟨rfl, hb10⟩
     refine hK.out _ _ (hHeld.below hb10) (fun hHeld => ?_)
     try (have HN2 := HN.out.below hb10; clear HN; have HN : Hid (NB _ _ _ _ _) := HN2; clear HN2)
     clear hK K hb10
     refine tks 5 ⟨some 53, _, _, _, _, none⟩ rfl ?_
     simp only [za, zb, zc, zd]
     refine tks 6 ⟨some 59, _, _, _, _, none⟩ rfl ?_
     simp only [za, zb, zc, zd]
     refine tks 7 ⟨some 60, _, _, _, _, none⟩ rfl ?_
     simp only [za, zb, zc, zd]
     refine rd 9 ⟨none, _, _, _, _, none⟩ rfl (fun K hK => ?_)
     refine (if_pos (by kernel_rfl)).mpr (wp_store_mid 36 _ _ rfl _ 0 #[vi ki J, vi ki X] rfl rfl HN.out.1.there (by kernel_rfl) (by simp [Value.oneCell']) (hK.out _ _ (hHeld.off HN.out.2.1 HN.out.2.2 _) (fun hHeld => ?_)))
     have HN2 : Hid (BS w ((_, [vi ki J, vi ki X]) :: [(W6.heap.size, [vi ki I, vi ki V]), (W4.heap.size, [vi ki I, vi ki V]), (ob, T), (w.heap.size + 1, [vi ki i, vi ki u]), (w.heap.size, Z)]) _ ∧ _) := ⟨⟨hHeld.1, fun x hx => by rcases List.mem_cons.1 hx with rfl | hx; exact ⟨HN.out.2.1, HN.out.1.setAll _ rfl⟩; exact hHeld.2 x hx⟩, HN.out.2.2⟩
     clear hK K HN
     refine tks 10 ⟨some 15, _, _, _, _, none⟩ rfl ?_
     simp only [za, zb, zc, zd]
     refine wpAnyH_done (by kernel_rfl) ?_ _
     go_wp2_with fail
     go_meet
     case rel => exact ⟨_, rfl, rfl, HN2.out⟩
   case rest =>
    obtain ⟨nb7, rfl, rfl, KK⟩ := hcut
    clear K7 HO7
    have K8 : Hid (BS w [(nb7, [vi ki J, vi ki X]), (W6.heap.size, [vi ki I, vi ki V]), (W4.heap.size, [vi ki I, vi ki V]), (ob, T), (w.heap.size + 1, [vi ki i, vi ki u]), (w.heap.size, Z)] wc) := KK.out.1
    have ne8_0 : W6.heap.size ≠ nb7 := KK.out.2 (W6.heap.size, [vi ki I, vi ki V]) (by simp)
    have ne8_1 : W4.heap.size ≠ nb7 := KK.out.2 (W4.heap.size, [vi ki I, vi ki V]) (by simp)
    have ne8_2 : ob ≠ nb7 := KK.out.2 (ob, T) (by simp)
    have ne8_3 : w.heap.size + 1 ≠ nb7 := KK.out.2 (w.heap.size + 1, [vi ki i, vi ki u]) (by simp)
    have ne8_4 : w.heap.size ≠ nb7 := KK.out.2 (w.heap.size, Z) (by simp)
    clear KK
    obtain ⟨c4_0, c4_1⟩ := (bo5 K8).c2
    go_wp2_with fail
    refine (A3.out _ (hL.out _ K8.out.1)).mono ?_
    rintro e W9 ⟨rfl, hb⟩
    have K9 := bsb K8 hb
    clear hb K8
    clear c4_0 c4_1
    have M9 := bsn K9 [vi ki L, vi ki Y] 36
    have lt9_0 := (bo1 K9).1
    have lt9_1 := (bo2 K9).1
    have lt9_2 := (bo3 K9).1
    have lt9_3 := (K9.out.at (ob) T (by simp)).1
    have lt9_4 := (bo5 K9).1
    have lt9_5 := (K9.out.at (w.heap.size) Z (by simp)).1
    go_upto_region 11 with fail
    refine gen_code (fun WX => BS w ((W9.heap.size, [vi ki L, vi ki Y]) :: [(nb7, [vi ki J, vi ki X]), (W6.heap.size, [vi ki I, vi ki V]), (W4.heap.size, [vi ki I, vi ki V]), (ob, T), (w.heap.size + 1, [vi ki i, vi ki u]), (w.heap.size, Z)]) WX) M9.out ?_
    intro W10 k9
    have K10 : Hid (BS w ((W9.heap.size, [vi ki L, vi ki Y]) :: [(nb7, [vi ki J, vi ki X]), (W6.heap.size, [vi ki I, vi ki V]), (W4.heap.size, [vi ki I, vi ki V]), (ob, T), (w.heap.size + 1, [vi ki i, vi ki u]), (w.heap.size, Z)]) W10) := k9
    clear k9 M9 K9
    rcases hF with hG | hH | ⟨rfl, rfl⟩
    ·have q1 : (G != 0) = true := by simpa using hG
     obtain ⟨c0_0, c0_1⟩ := (bo1 K10).c2
     obtain ⟨c1_0, c1_1⟩ := (bo2 K10).c2
     go_wp2_with fail
     refine (PR.out _ (hL.out _ K10.out.1)).mono ?_
     rintro e W98 ⟨rfl, hb⟩
     have K98 := bsb K10 hb
     clear hb K10
     clear c0_0 c0_1 c1_0 c1_1
     go_wp2_with fail
     refine (KN.out _ (hL.out _ K98.out.1)).mono ?_
     rintro e W99 ⟨rfl, hb⟩
     have K99 := bsb K98 hb
     clear hb
     go_wp2_with fail
     go_ret
     exact ⟨rfl, K99.out.1⟩
    ·by_cases hG : G = 0
     ·subst hG
      have q1 : (H != 0) = true := by simpa using hH
      obtain ⟨c0_0, c0_1⟩ := (bo1 K10).c2
      obtain ⟨c1_0, c1_1⟩ := (bo2 K10).c2
      go_wp2_with fail
      refine (PR.out _ (hL.out _ K10.out.1)).mono ?_
      rintro e W98 ⟨rfl, hb⟩
      have K98 := bsb K10 hb
      clear hb K10
      clear c0_0 c0_1 c1_0 c1_1
      go_wp2_with fail
      refine (KN.out _ (hL.out _ K98.out.1)).mono ?_
      rintro e W99 ⟨rfl, hb⟩
      have K99 := bsb K98 hb
      clear hb
      go_wp2_with fail
      go_ret
      exact ⟨rfl, K99.out.1⟩
     ·have q1 : (G != 0) = true := by simpa using hG
      obtain ⟨c0_0, c0_1⟩ := (bo1 K10).c2
      obtain ⟨c1_0, c1_1⟩ := (bo2 K10).c2
      go_wp2_with fail
      refine (PR.out _ (hL.out _ K10.out.1)).mono ?_
      rintro e W98 ⟨rfl, hb⟩
      have K98 := bsb K10 hb
      clear hb K10
      clear c0_0 c0_1 c1_0 c1_1
      go_wp2_with fail
      refine (KN.out _ (hL.out _ K98.out.1)).mono ?_
      rintro e W99 ⟨rfl, hb⟩
      have K99 := bsb K98 hb
      clear hb
      go_wp2_with fail
      go_ret
      exact ⟨rfl, K99.out.1⟩
    ·by_cases hG : G = 0
     ·by_cases hH : H = 0
      ·subst hG
       subst hH
       obtain ⟨c0_0, c0_1⟩ := (bo1 K10).c2
       obtain ⟨c1_0, c1_1⟩ := (bo2 K10).c2
       go_wp2_with fail
       refine (PR.out _ (hL.out _ K10.out.1)).mono ?_
       rintro e W98 ⟨rfl, hb⟩
       have K98 := bsb K10 hb
       clear hb K10
       clear c0_0 c0_1 c1_0 c1_1
       go_wp2_with fail
       refine (KN.out _ (hL.out _ K98.out.1)).mono ?_
       rintro e W99 ⟨rfl, hb⟩
       have K99 := bsb K98 hb
       clear hb
       go_wp2_with fail
       go_ret
       exact ⟨rfl, K99.out.1⟩
      ·subst hG
       have q1 : (H != 0) = true := by simpa using hH
       obtain ⟨c0_0, c0_1⟩ := (bo1 K10).c2
       obtain ⟨c1_0, c1_1⟩ := (bo2 K10).c2
       go_wp2_with fail
       refine (PR.out _ (hL.out _ K10.out.1)).mono ?_
       rintro e W98 ⟨rfl, hb⟩
       have K98 := bsb K10 hb
       clear hb K10
       clear c0_0 c0_1 c1_0 c1_1
       go_wp2_with fail
       refine (KN.out _ (hL.out _ K98.out.1)).mono ?_
       rintro e W99 ⟨rfl, hb⟩
       have K99 := bsb K98 hb
       clear hb
       go_wp2_with fail
       go_ret
       exact ⟨rfl, K99.out.1⟩
     ·have q1 : (G != 0) = true := by simpa using hG
      obtain ⟨c0_0, c0_1⟩ := (bo1 K10).c2
      obtain ⟨c1_0, c1_1⟩ := (bo2 K10).c2
      go_wp2_with fail
      refine (PR.out _ (hL.out _ K10.out.1)).mono ?_
      rintro e W98 ⟨rfl, hb⟩
      have K98 := bsb K10 hb
      clear hb K10
      clear c0_0 c0_1 c1_0 c1_1
      go_wp2_with fail
      refine (KN.out _ (hL.out _ K98.out.1)).mono ?_
      rintro e W99 ⟨rfl, hb⟩
      have K99 := bsb K98 hb
      clear hb
      go_wp2_with fail
      go_ret
      exact ⟨rfl, K99.out.1⟩
attribute [local go_sem] Oper.semAt_some
def stK (st : Int) (FT : List TrR) (k : Nat) : Int := if k = 0 then st else (FT.getD (k - 1) zTr).at_
theorem stK_succ {st : Int} {FT : List TrR} {k : Nat} {y : TrR} (h : FT[k]? = some y) : stK st FT (k + 1) = y.at_ := by
 unfold stK
 rw [if_neg (by omega), Nat.add_sub_cancel, List.getD_eq_getElem?_getD, h]
 rfl
theorem getD_app {X Y : List TrR} {k : Nat} (h : k < X.length) : (X ++ Y).getD k zTr = X.getD k zTr := by
 rw [List.getD_eq_getElem?_getD, List.getD_eq_getElem?_getD, List.getElem?_append_left h]
theorem chs_ft (T : List Value) (hT : T.length = 25) (S : List Nat) (Ok : World → Prop) (hOk : OkS S Ok) (a b : Int) (ao : Option Addr) (n c : Nat) (hnc : n ≤ c) (L : List TrR) (h5 : T[5]? = some (.slice ao n c)) (h6 : T[6]? = some (.bool true)) (fr : Int) (h7 : T[7]? = some (vi ki fr)) (f1 : -1000000000000000000 ≤ fr) (f2 : fr ≤ 1000000000000000000) (FL : List Value) (hFL : T.drop 6 = FL) (hF : FL.length = 19) (hr : Zm.Rises (L.map (·.at_))) (h4 : L.length ≤ 4096) (hn : L.length = n)
  (TR : ∀ W, Ok W → TrAt W (.slice ao n c) L)
  (st : Int) (hst : st = max a (fr - 1)) (FT : List TrR) (hLF : ∀ x ∈ L, b < x.at_ → FT = []) (hlt : ∀ k, k < FT.length → stK st FT k < b)
  (NX : ∀ k, k ≤ FT.length → stK st FT k < b → ∃ (y : TrR) (er : Int), (∀ V : World, Ok V → Calls Tryz.prog 206 #[.agg FL.toArray, vi ki (stK st FT k)] V fun r w' => r = zr (.tuple #[.agg #[vi ki y.at_, vi ki y.off, .bool y.dst, .string y.ab], vi ki er]) ∧ Below V.heap.size V w') ∧ stK st FT k < y.at_ ∧ (k < FT.length → FT[k]? = some y ∧ y.at_ ≤ b) ∧ (k = FT.length → b < y.at_))
  (w : World) (m : Nat) (bt bf bo : Nat) (X1 : Bx w bt T) (X2 : Bx w bf [vi ki a]) (X3 : Bx w bo [vi ki b]) (O : Ok w) :
  SeqB m Tryz.prog 205 #[.pointer (some ⟨bt, 0, none⟩), .pointer (some ⟨bf, 0, none⟩), .pointer (some ⟨bo, 0, none⟩)] (bt :: bf :: bo :: S) (fun k => trV ((Zm.chg a b L ++ FT).getD k zTr)) (Zm.chg a b L ++ FT).length w := by
 intro l M J W hb hM hSM hJ hY h0
 have HS0 : Hid (ChB W T bt bf bo a b Ok S W) :=
  ⟨⟨X1.below hb, X2.below hb, X3.below hb, hOk, hOk.below O hb, fun k hk => Nat.lt_of_lt_of_le (hOk.lt w O k hk) hb.size, ⟨Nat.lt_of_lt_of_le X1.1 hb.size, Nat.lt_of_lt_of_le X2.1 hb.size, Nat.lt_of_lt_of_le X3.1 hb.size⟩, Nat.le_refl _⟩, Below.refl _ _⟩
 have BH : Hid (∀ V : World, Ok V → Calls Tryz.prog 127 #[.agg T.toArray, vi ki a] V fun r w' => r = zr (vi ki ((Zm.cntLe a (L.map (·.at_)) : Nat) : Int)) ∧ Below V.heap.size V w') := fun V hV => behind_any T hT L _ h5 a hr h4 V (TR V hV)
 have hC0 : Zm.cntLe a (L.map (·.at_)) ≤ n := by have := Zm.cntLe_le a (L.map (·.at_)); rw [List.length_map, hn] at this; exact this
 have HLF : Hid (∀ x ∈ L.drop (Zm.cntLe a (L.map (·.at_))), b < x.at_ → FT = []) := fun x hx h => hLF x (List.mem_of_mem_drop hx) h
 have HNX : Hid (∀ k, k ≤ FT.length → stK st FT k < b → ∃ (y : TrR) (er : Int), (∀ V : World, Ok V → Calls Tryz.prog 206 #[.agg FL.toArray, vi ki (stK st FT k)] V fun r w' => r = zr (.tuple #[.agg #[vi ki y.at_, vi ki y.off, .bool y.dst, .string y.ab], vi ki er]) ∧ Below V.heap.size V w') ∧ stK st FT k < y.at_ ∧ (k < FT.length → FT[k]? = some y ∧ y.at_ ≤ b) ∧ (k = FT.length → b < y.at_)) := NX
 have HLT : Hid (∀ k, k < FT.length → stK st FT k < b) := hlt
 clear hLF NX hlt
 unfold Zm.chg at hY ⊢
 generalize Zm.cntLe a (L.map (·.at_)) = C at *
 have SL : Hid (∀ V : World, (Instr.sliceAt 24 (.slice ao n c) (some (vi ki (C : Int))) none none).run Tryz.prog V = .ok (.slice (if c = C then ao else ao.map (·.add (C * 4))) (n - C) (c - C)) V) := fun V => run_slT ao n c C hC0 V
 have TD : Hid (∀ V, Ok V → TrAt V (.slice (if c = C then ao else ao.map (·.add (C * 4))) (n - C) (c - C)) (L.drop C)) := fun V hV => (TR V hV).drop hnc hC0
 have hlen : (L.drop C).length = n - C := by rw [List.length_drop, hn]
 have hm4 : n - C ≤ 4096 := by omega
 generalize L.drop C = D at *
 generalize (if c = C then ao else ao.map (·.add (C * 4))) = a5 at *
 obtain ⟨m5, hm5⟩ : ∃ m5, n - C = m5 := ⟨_, rfl⟩
 rw [hm5] at SL TD hlen hm4
 generalize c - C = c5 at *
 refine callsIn_wide.2 ?_
 go_enter Tryz.func205, Tryz.ntmps205
 go_upto_region 0 with fail
 go_cut [15, 16, 17] (fun v15 v16 v17 wx => v15 = .slice a5 m5 c5 ∧ v16 = vi ki (m5 : Int) ∧ v17 = vi ki 0 ∧ Hid (ChB W T bt bf bo a b Ok S wx))
 case first =>
  refine wp_region_held_drew (S := ChB W T bt bf bo a b Ok S) (by kernel_rfl) HS0.out.drew (fun hHeld => ?_)
  refine tks 0 ⟨some 10, _, _, _, _, none⟩ rfl ?_
  simp only [za, zb, zc, zd]
  refine tk (v := ?_) 1 ⟨some 11, _, _, _, _, none⟩ rfl ?_ ?_
  case refine_2 => (intro w9 hSw; have l1 := hSw.cs.xf.c 0 rfl; have l2 := hSw.cs.xt.c 5 h5; clear hSw; go_simp; try with_reducible rfl)
  simp only [za, zb, zc, zd]
  refine wpAnyH_take (i := 2) (v := .agg T.toArray) (oi := ⟨some 12, _, _, _, _, none⟩) rfl (by kernel_rfl) (by kernel_rfl) (by kernel_rfl) (fun _ _ _ h => h) (Or.inl ⟨by kernel_rfl, ?_⟩) (by assumption) ?_
  case refine_1 => (intro w9 hSw; exact exec_row rfl rfl hSw.cs.xt.all Tryz.underlying44 rfl (by rw [hT]; kernel_rfl))
  simp only [za, zb, zc, zd]
  refine tk (v := ?_) 3 ⟨some 13, _, _, _, _, none⟩ rfl ?_ ?_
  case refine_2 => (intro w9 hSw; have l1 := hSw.cs.xf.c 0 rfl; have l2 := hSw.cs.xt.c 5 h5; clear hSw; go_simp; try with_reducible rfl)
  simp only [za, zb, zc, zd]
  refine tks 7 ⟨some 17, _, _, _, _, none⟩ rfl ?_
  simp only [za, zb, zc, zd]
  refine rd 4 ⟨some 14, _, _, _, _, none⟩ rfl (fun K hK => ?_)
  go_simp
  refine (BH.out _ hHeld.cs.ok).mono ?_
  rintro e v1 ⟨rfl, hb1⟩
  refine hK.out _ _ (hHeld.below hb1) (fun hHeld => ?_)
  clear hK K hb1
  refine wpAnyH_take (i := 5) (v := .slice a5 m5 c5) (oi := ⟨some 15, _, _, _, _, none⟩) rfl (by kernel_rfl) (by kernel_rfl) (by kernel_rfl) (fun _ _ _ h => h) (Or.inl ⟨by kernel_rfl, ?_⟩) (by assumption) ?_
  case refine_1 => (intro w9 hSw; exact exec_slice rfl rfl rfl (SL.out w9))
  simp only [za, zb, zc, zd]
  refine tks 6 ⟨some 16, _, _, _, _, none⟩ rfl ?_
  simp only [za, zb, zc, zd]
  refine wpAnyH_done (by kernel_rfl) ?_ _
  go_wp2_with fail
  go_meet
  case rel => exact ⟨rfl, rfl, rfl, hHeld⟩
 case rest =>
  obtain ⟨rfl, rfl, rfl, HS1⟩ := hcut
  have J1 : J 0 wc := hJ _ _ _ h0 HS1.out.bel
  have AL : Hid (∀ j x, D[j]? = some x → x.at_ ≤ b → j < (D.takeWhile (fun x => decide (x.at_ ≤ b))).length → (D.takeWhile (fun x => decide (x.at_ ≤ b))).getD j zTr = x) := fun j x hx _ hj => Zm.tw_get hx hj
  go_wp2_with fail
  go_loopw [17] (fun iv wr => ∃ i : Nat, iv = vi ki (i : Int) ∧ i ≤ m5 ∧ Hid (ChS W T bt bf bo a b Ok S wr ∧ J i wr ∧ ∀ j x, j < i → D[j]? = some x → x.at_ ≤ b)) (fun iv _ => m5 - (intOf iv).toNat)
  case atStart => exact ⟨0, rfl, Nat.zero_le _, HS1.out.cs, J1, fun j x hj => absurd hj (Nat.not_lt_zero _)⟩
  case round =>
   obtain ⟨i, rfl, hi, HR⟩ := hrel
   by_cases hlt : i < m5
   ·obtain ⟨x, hx⟩ : ∃ x, D[i]? = some x := ⟨_, List.getElem?_eq_getElem (by omega)⟩
    obtain ⟨g, o, c', hsv, hrg⟩ := (TD.out wr HR.out.1.ok).row hx
    rw [hlen] at hsv
    simp only [Value.slice.injEq, true_and] at hsv
    obtain ⟨rfl, rfl⟩ := hsv
    have HRG : Hid (wr.rangeAt g (o + i * 4) [vi ki x.at_, vi ki x.off, .bool x.dst, .string x.ab]) := hrg
    clear hrg
    have hlt' : (i : Int) < (m5 : Int) := by omega
    have hn5 := HR.out.1
    have hba : Below wr.heap.size wr (wr.alloc (.cells #[vi ki x.at_, vi ki x.off, .bool x.dst, .string x.ab] 23)) := (Below.refl _ _).alloc (Nat.le_refl _) _
    have HZ : Hid (ChS W T bt bf bo a b Ok S (wr.alloc (.cells #[vi ki x.at_, vi ki x.off, .bool x.dst, .string x.ab] 23)) ∧ J i (wr.alloc (.cells #[vi ki x.at_, vi ki x.off, .bool x.dst, .string x.ab] 23)) ∧ Bx (wr.alloc (.cells #[vi ki x.at_, vi ki x.off, .bool x.dst, .string x.ab] 23)) wr.heap.size [vi ki x.at_, vi ki x.off, .bool x.dst, .string x.ab]) := ⟨hn5.below hba, hJ _ _ _ HR.out.2.1 (hba.mono hn5.wsz), Bx.new wr [vi ki x.at_, vi ki x.off, .bool x.dst, .string x.ab] _⟩
    have hwr := hn5.wsz
    have HP : Hid (∀ j x, j < i → D[j]? = some x → x.at_ ≤ b) := HR.out.2.2
    clear hn5 HR hba
    go_upto_region 3 with (first | (refine wpList_load_mid rfl 23 _ rfl g (o + i * 4) rfl [vi ki x.at_, vi ki x.off, .bool x.dst, .string x.ab] _ HRG.out Tryz.underlying23 rfl (by kernel_rfl) ?_) | fail)
    refine gen_code (fun V => ChS W T bt bf bo a b Ok S V ∧ J i V ∧ Bx V wr.heap.size [vi ki x.at_, vi ki x.off, .bool x.dst, .string x.ab]) HZ.out ?_
    clear HZ HRG
    rintro V ⟨C1, J2, B1⟩
    have o0 := C1.xo.c 0 rfl
    have x0 := B1.c 0 rfl
    have x1 := B1.c 1 rfl
    have x2 := B1.c 2 rfl
    have x3 := B1.c 3 rfl
    by_cases hgt : b < x.at_
    ·have hN : (D.takeWhile (fun x => decide (x.at_ ≤ b))).length = i := Zm.tw_at (fun j y hj hy => decide_eq_true (HP.out j y hj hy)) hx (decide_eq_false (by omega))
     have hF0 : FT = [] := HLF.out x (List.mem_of_getElem? hx) hgt
     have HJ2 : Hid (J (D.takeWhile (fun x => decide (x.at_ ≤ b)) ++ FT).length V) := by rw [hF0, List.append_nil, hN]; exact J2
     clear hY C1 B1 J2 AL
     refine (wpIn_wide (n := 10)).1 ?_
     gi_wp2
     refine ⟨fun _ h => (by cases h), ?_⟩
     gi_wp2
     go_wp2_with fail
     refine bodyPost_ret (results_none rfl _ _ _) rfl ?_
     exact ⟨⟨_, rfl⟩, HJ2.out⟩
    ·have hle : x.at_ ≤ b := by omega
     have hiN := Zm.tw_lt (fun j y hj hy => decide_eq_true (HP.out j y hj hy)) hx (decide_eq_true hle)
     have hY1 := hY i V (by rw [List.length_append]; omega) C1.wsz J2
     rw [getD_app hiN, Zm.tw_get hx hiN] at hY1
     obtain ⟨fn, tmps, assign, body, hy, hR⟩ := YieldAt_wide (m' := 10 - 1) hY1
     simp only [trV] at hy
     have HR : Hid (RoundIn Fence.wide (10 - 1) Tryz.prog l fn tmps assign body V fun e W' => e = zr (.bool true) ∧ J (i + 1) W' ∧ Turns M V W') := hR
     clear hR hY1 J2 B1
     refine (wpIn_wide (n := 10)).1 ?_
     gi_wp2
     refine HR.out.mono ?_
     rintro e' V7 ⟨rfl, hJ7, ht7⟩
     have C7 := C1.turns ht7 hSM
     clear HR hy C1 o0 x0 x1 x2 x3
     gi_wp2
     go_wp2_with fail
     exact ⟨⟨i + 1, by simp, by omega, C7, hJ7, fun j y hj hy => by
      by_cases hji : j = i
      ·subst hji; rw [hx] at hy; cases hy; exact hle
      ·exact HP.out j y (by omega) hy⟩, by simp [intOf]; omega⟩
   ·obtain rfl : i = m5 := by omega
    have hN : (D.takeWhile (fun x => decide (x.at_ ≤ b))).length = i := by
     rw [Zm.tw_all (fun j x hx => decide_eq_true (HR.out.2.2 j x (by have := (List.getElem?_eq_some_iff.1 hx).1; omega) hx))]; exact hlen
    have g6 : wr.cell? ⟨bt, 6, none⟩ = some (.bool true) := HR.out.1.xt.c 6 h6
    have g7 : wr.cell? ⟨bt, 7, none⟩ = some (vi ki fr) := HR.out.1.xt.c 7 h7
    have ga : wr.cell? ⟨bf, 0, none⟩ = some (vi ki a) := HR.out.1.xf.c 0 rfl
    have wf : IntKind.i64.wrap (fr - 1) = fr - 1 := by rw [IntKind.wrap_i64]; omega
    have HC : Hid (ChS W T bt bf bo a b Ok S wr) := HR.out.1
    have HJ : Hid (J (i + 0) wr) := HR.out.2.1
    have HL2 : Hid ((D.takeWhile (fun x => decide (x.at_ ≤ b)) ++ FT).length = i + FT.length) := by show _ = _; rw [List.length_append, hN]
    have HG : Hid (∀ k y, FT[k]? = some y → (D.takeWhile (fun x => decide (x.at_ ≤ b)) ++ FT).getD (i + k) zTr = y) := fun k y hk => by
     rw [List.getD_eq_getElem?_getD, List.getElem?_append_right (by omega), hN, Nat.add_sub_cancel_left, hk]; rfl
    clear HR hN AL
    go_wp2_with fail
    go_loopw [7] (fun av V => ∃ k : Nat, av = vi ki (stK st FT k) ∧ k ≤ FT.length ∧ Hid (ChS W T bt bf bo a b Ok S V) ∧ Hid (J (i + k) V)) (fun av _ => (b - intOf av).toNat)
    case atStart => exact ⟨0, by rw [show stK st FT 0 = st from rfl, hst], Nat.zero_le _, HC, HJ⟩
    case round =>
     clear HC HJ g6 g7 ga
     obtain ⟨k, rfl, hk, HC, HJ⟩ := hrel
     have gb : wr.cell? ⟨bo, 0, none⟩ = some (vi ki b) := HC.out.xo.c 0 rfl
     by_cases hlb : stK st FT k < b
     ·obtain ⟨y, er, hnx, hyl, hyk, hyf⟩ := HNX.out k hk hlb
      have HN1 : Hid (∀ V : World, Ok V → Calls Tryz.prog 206 #[.agg FL.toArray, vi ki (stK st FT k)] V fun r w' => r = zr (.tuple #[.agg #[vi ki y.at_, vi ki y.off, .bool y.dst, .string y.ab], vi ki er]) ∧ Below V.heap.size V w') := hnx
      have RG : Hid (wr.rangeAt bt 6 FL) := fun q x hx => HC.out.xt.c (6 + q) (by rw [← hFL, List.getElem?_drop] at hx; exact hx)
      clear hnx
      obtain ⟨s, hs⟩ : ∃ s, stK st FT k = s := ⟨_, rfl⟩
      rw [hs] at hlb hyl HN1 ⊢
      have HSK : Hid (stK st FT k = s) := hs
      clear hs
      generalize hFA : FL.toArray = FA at *
      go_wp2_with (first | (refine wpList_load_mid rfl 42 _ rfl bt 6 rfl FL _ RG.out Tryz.underlying42 rfl (by rw [hF]; kernel_rfl) ?_; rw [hFA]) | fail)
      refine (HN1.out _ HC.out.ok).mono ?_
      rintro e1 V1 ⟨rfl, hb1⟩
      have C1 := HC.out.below hb1
      have hwV := C1.wsz
      have hba : Below V1.heap.size V1 (V1.alloc (.cells #[vi ki y.at_, vi ki y.off, .bool y.dst, .string y.ab] 23)) := (Below.refl _ _).alloc (Nat.le_refl _) _
      have HZ : Hid (ChS W T bt bf bo a b Ok S (V1.alloc (.cells #[vi ki y.at_, vi ki y.off, .bool y.dst, .string y.ab] 23)) ∧ J (i + k) (V1.alloc (.cells #[vi ki y.at_, vi ki y.off, .bool y.dst, .string y.ab] 23)) ∧ Bx (V1.alloc (.cells #[vi ki y.at_, vi ki y.off, .bool y.dst, .string y.ab] 23)) V1.heap.size [vi ki y.at_, vi ki y.off, .bool y.dst, .string y.ab]) :=
       ⟨C1.below hba, hJ _ _ _ (hJ _ _ _ HJ.out (hb1.mono HC.out.wsz)) (hba.mono C1.wsz), Bx.new V1 [vi ki y.at_, vi ki y.off, .bool y.dst, .string y.ab] 23⟩
      clear C1 hba hb1 HC HJ RG HN1 gb
      go_upto_region 9 with fail
      refine gen_code (fun V => ChS W T bt bf bo a b Ok S V ∧ J (i + k) V ∧ Bx V V1.heap.size [vi ki y.at_, vi ki y.off, .bool y.dst, .string y.ab]) HZ.out ?_
      clear HZ
      rintro V ⟨C2, J2, B2⟩
      have o0 := C2.xo.c 0 rfl
      have x0 := B2.c 0 rfl
      have x1 := B2.c 1 rfl
      have x2 := B2.c 2 rfl
      have x3 := B2.c 3 rfl
      by_cases hkl : k < FT.length
      ·obtain ⟨hy1, hy2⟩ := hyk hkl
       have hY1 := hY (i + k) V (by rw [HL2.out]; omega) C2.wsz J2
       rw [HG.out k y hy1] at hY1
       obtain ⟨fn, tmps, assign, body, hy, hR⟩ := YieldAt_wide (m' := 10 - 1) hY1
       simp only [trV] at hy
       have HR : Hid (RoundIn Fence.wide (10 - 1) Tryz.prog l fn tmps assign body V fun e W' => e = zr (.bool true) ∧ J (i + k + 1) W' ∧ Turns M V W') := hR
       have HB2 : Hid (Bx V V1.heap.size [vi ki y.at_, vi ki y.off, .bool y.dst, .string y.ab]) := B2
       have HY1 : Hid (FT[k]? = some y) := hy1
       clear hR hY1 J2 B2 hyk hyf hy1
       refine (wpIn_wide (n := 10)).1 ?_
       gi_wp2
       refine HR.out.mono ?_
       rintro e' V7 ⟨rfl, hJ7, ht7⟩
       have C7 := C2.turns ht7 hSM
       have B7 : Bx V7 V1.heap.size [vi ki y.at_, vi ki y.off, .bool y.dst, .string y.ab] := bx_turns HB2.out ht7 (fun q => by have := hM _ q; omega)
       have z0 := B7.c 0 rfl
       clear HR hy C2 o0 x0 x1 x2 x3 HB2
       gi_wp2
       go_wp2_with fail
       exact ⟨⟨k + 1, by rw [stK_succ HY1.out], by omega, C7, hJ7⟩, by simp [intOf]; omega⟩
      ·have hkF : k = FT.length := by omega
       have hgt := hyf hkF
       have HJ2 : Hid (J (D.takeWhile (fun x => decide (x.at_ ≤ b)) ++ FT).length V) := by rw [HL2.out, ← hkF]; exact J2
       clear hY C2 B2 J2 hyk hyf
       refine (wpIn_wide (n := 10)).1 ?_
       gi_wp2
       refine ⟨fun _ h => (by cases h), ?_⟩
       gi_wp2
       go_wp2_with fail
       refine bodyPost_ret (results_none rfl _ _ _) rfl ?_
       exact ⟨⟨_, rfl⟩, HJ2.out⟩
     ·have hkF : k = FT.length := by
       rcases Nat.lt_or_ge k FT.length with g | g
       ·exact absurd (HLT.out k g) hlb
       ·omega
      have HJ2 : Hid (J (D.takeWhile (fun x => decide (x.at_ ≤ b)) ++ FT).length wr) := by rw [HL2.out, ← hkF]; exact HJ.out
      obtain ⟨s, hs⟩ : ∃ s, stK st FT k = s := ⟨_, rfl⟩
      rw [hs] at hlb ⊢
      clear hY HJ hs
      go_wp2_with fail
      refine bodyPost_end (results_none rfl _ _ _) rfl ?_
      exact ⟨⟨_, rfl⟩, by have := HJ2.out; rw [List.length_append] at this; exact this⟩
end Go.Proofs.YtklehbmghjcmaaaGreatDoor
