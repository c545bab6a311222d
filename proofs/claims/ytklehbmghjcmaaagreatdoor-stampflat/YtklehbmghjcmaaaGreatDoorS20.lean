import Derived.Test.YtklehbmghjcmaaaGreatDoorSz
import Derived.Test.YtklehbmghjcmaaaGreatDoorS2
import Derived.Test.YtklehbmghjcmaaaGreatDoorS19
import Derived.Deep.Cut
import Derived.Deep.CutRange
import Derived.Deep.DeepCutAuto
import Derived.Deep.RegionHeld3
import Derived.Test.YtklehbmghjcmaaaGreatDoorS0
import Derived.RegionTactic
import Derived.ChangeAlike
import Derived.Deep.RegionWith
import Derived.Deep.DeepMust
import Derived.Deep.QuietTactic
import Derived.BigQuiet
open Go.Value renaming int → vi
open Go.IntKind renaming i64 → ki
open List renaming setIfInBounds_toArray → zb, set_cons_zero → zc, set_cons_succ → zd
open Go.Act renaming put → za
open Go.Ending renaming returned → zr
set_option maxRecDepth 100000
set_option maxHeartbeats 16000000
set_option linter.unusedVariables false
namespace Go.Proofs.YtklehbmghjcmaaaGreatDoor
open Go.RowKit Sr
def FlatIs (T : List Value) (Ok : World → Prop) (i u n I V E : Int) : Prop := ∀ w : World, Ok w → Calls Tryz.prog 19 #[.agg T.toArray, .agg #[vi ki i, vi ki u], .agg #[vi ki 0, vi ki 0, vi ki 0, vi ki n]] w fun r w' => r = zr (.tuple #[.agg #[vi ki I, vi ki V], vi ki E]) ∧ Below w.heap.size w w'
theorem sf_run (P0 : World → Prop) (Z UT : List Value) (hZ : Z.length = 25) (i u n d D N I V E J X G L Y H : Int) (rb : Bool) (hd : d.tmod 10000 = D) (hN : IntKind.i64.wrap (D * 86400000000) = N) (hF : G ≠ 0 ∨ H ≠ 0 ∨ (L = J ∧ Y = X))
  (RR : Hid (∀ w : World, P0 w → Calls Tryz.prog 21 #[.agg Z.toArray] w fun r w' => r = zr (.bool rb) ∧ Below w.heap.size w w'))
  (GV : Hid (∀ w : World, P0 w → Calls Tryz.prog 9 #[.agg Z.toArray] w fun e w' => ∃ (T : List Value) (Ok : World → Prop), e = zr (.agg T.toArray) ∧ T.length = 25 ∧ T.toArray.all (·.oneCell') = true ∧ Ok w' ∧ (∀ A B : World, Ok A → Below A.heap.size A B → Ok B) ∧ (∀ A : World, Ok A → Ok A.drew) ∧ Below w.heap.size w w' ∧ (rb = true → n ≠ -9223372036854775808 → FlatIs T Ok i u n I V E)))
  (A1 : Hid (∀ w : World, P0 w → Calls Tryz.prog 17 #[.agg #[vi ki i, vi ki u], .agg #[vi ki 0, vi ki 0, vi ki 0, vi ki n]] w fun r w' => r = zr (.tuple #[.agg #[vi ki I, vi ki V], vi ki E]) ∧ Below w.heap.size w w'))
  (UC : Hid (∀ w : World, Calls Tryz.prog 22 #[] w fun r w' => r = zr (.agg UT.toArray) ∧ Below w.heap.size w w'))
  (A2 : Hid (∀ w : World, P0 w → Calls Tryz.prog 19 #[.agg UT.toArray, .agg #[vi ki i, vi ki u], .agg #[vi ki 0, vi ki 0, vi ki D, vi ki 0]] w fun r w' => r = zr (.tuple #[.agg #[vi ki J, vi ki X], vi ki G]) ∧ Below w.heap.size w w'))
  (A3 : Hid (∀ w : World, P0 w → Calls Tryz.prog 17 #[.agg #[vi ki i, vi ki u], .agg #[vi ki 0, vi ki 0, vi ki 0, vi ki N]] w fun r w' => r = zr (.tuple #[.agg #[vi ki L, vi ki Y], vi ki H]) ∧ Below w.heap.size w w'))
  (PR : Hid (∀ w : World, P0 w → Calls Tryz.prog 23 #[.agg #[vi ki 0, vi ki 0, vi ki D, vi ki 0]] w fun r w' => r = zr (.bool true) ∧ Below w.heap.size w w'))
  (KN : Hid (∀ w : World, P0 w → Calls Tryz.prog 16 #[] w fun r w' => r = zr (.bool true) ∧ Below w.heap.size w w')) (w : World) (hL : Hid (∀ W : World, Below w.heap.size w W → P0 W)) :
  Calls Tryz.prog 6 #[.agg Z.toArray, .agg #[vi ki i, vi ki u], vi ki n, vi ki d] w fun r w' => r = zr (.bool true) ∧ Below w.heap.size w w' := by
 generalize hUA : UT.toArray = UA at *
 clear hUA
 have K0 := bsn2 w Z 34 [vi ki i, vi ki u] 36
 go_enter Tryz.func6, Tryz.ntmps6
 generalize hZA : Z.toArray = ZA at *
 go_upto_region 1 with fail
 refine bs_to K0 ?_
 clear K0
 intro W0 K0
 go_wp2_with (first | (refine wpList_load_mid rfl 34 _ rfl (w.heap.size) 0 rfl Z _ (K0.out.at (w.heap.size) Z (by simp)).all Tryz.underlying34 rfl (by rw [hZ]; kernel_rfl) ?_; rw [hZA]) | fail)
 refine (GV.out _ (hL.out _ K0.out.1)).mono ?_
 rintro e W1 ⟨T, Ok, rfl, hTl, hT1, hok, hokb, hokd, hb, hout⟩
 have K1 := bsb K0 hb
 have HOK : Hid (Ok W1) := hok
 have HOB : Hid (∀ A B : World, Ok A → Below A.heap.size A B → Ok B) := hokb
 have HOUT : Hid (rb = true → n ≠ -9223372036854775808 → FlatIs T Ok i u n I V E) := hout
 clear hb K0 hok hokb hokd hout
 have X2 : Hid (Bx (W1.alloc (.cells zeT.toArray 44)) W1.heap.size zeT) := Bx.new W1 zeT _
 have hsz := K1.out.1.size
 have lt0 := (K1.out.at (w.heap.size + 1) [vi ki i, vi ki u] (by simp)).1
 have lt1 := (K1.out.at (w.heap.size) Z (by simp)).1
 generalize hTA : T.toArray = TA at *
 have hTs : TA.size = 25 := by rw [← hTA]; exact hTl
 have hgo : BS w ((W1.heap.size, T) :: [(w.heap.size + 1, [vi ki i, vi ki u]), (w.heap.size, Z)]) ((W1.alloc (.cells zeT.toArray 44)).setCells W1.heap.size 0 TA.toList) ∧ Ok ((W1.alloc (.cells zeT.toArray 44)).setCells W1.heap.size 0 TA.toList) := by
  have ht : TA.toList = T := by rw [← hTA]
  rw [ht]
  refine ⟨K1.out.push zeT T 44 (by rw [hTl]; rfl), HOB.out _ _ HOK.out ?_⟩
  exact below_setCells (w := W1) (Nat.le_refl _) T _ 0 ((Below.refl _ W1).alloc (Nat.le_refl _) _)
 go_upto_region 2 with (refine wpList_store_mid rfl 44 _ _ rfl W1.heap.size 0 TA rfl rfl (by rw [hTs]; exact X2.out.there) (by rw [hTs]; kernel_rfl) hT1 ?_; refine gen_list (fun WX => BS w ((W1.heap.size, T) :: [(w.heap.size + 1, [vi ki i, vi ki u]), (w.heap.size, Z)]) WX ∧ Ok WX) hgo ?_; rintro W2 ⟨KV', OV'⟩)
 have K2 : Hid (BS w ((W1.heap.size, T) :: [(w.heap.size + 1, [vi ki i, vi ki u]), (w.heap.size, Z)]) W2) := KV'
 have HO2 : Hid (Ok W2) := OV'
 clear KV' OV' hgo X2 K1 HOK hTs
 obtain ⟨ob, hob⟩ : ∃ ob, W1.heap.size = ob := ⟨_, rfl⟩
 rw [hob] at K2 lt0 lt1 ⊢
 clear hob
 go_wp2_with (first | (refine wpList_load_mid rfl 34 _ rfl (w.heap.size) 0 rfl Z _ (K2.out.at (w.heap.size) Z (by simp)).all Tryz.underlying34 rfl (by rw [hZ]; kernel_rfl) ?_; rw [hZA]) | fail)
 refine (RR.out _ (hL.out _ K2.out.1)).mono ?_
 rintro e W3 ⟨rfl, hb⟩
 have K3 := bsb K2 hb
 have HO3 : Hid (Ok W3) := HOB.out _ _ HO2.out hb
 clear hb K2 HO2
 cases rb
 ·go_wp2_with fail
  refine (KN.out _ (hL.out _ K3.out.1)).mono ?_
  rintro e W99 ⟨rfl, hb⟩
  have K99 := bsb K3 hb
  clear hb
  go_wp2_with fail
  go_ret
  exact ⟨rfl, K99.out.1⟩
 ·rcases Classical.em (n = -9223372036854775808) with rfl | hn
  ·go_wp2_with fail
   refine (KN.out _ (hL.out _ K3.out.1)).mono ?_
   rintro e W99 ⟨rfl, hb⟩
   have K99 := bsb K3 hb
   clear hb
   go_wp2_with fail
   go_ret
   exact ⟨rfl, K99.out.1⟩
  ·have q0 : (n == -9223372036854775808) = false := by simpa using hn
   have hAZ : FlatIs T Ok i u n I V E := HOUT.out rfl hn
   unfold FlatIs at hAZ
   have AZ' : ∀ w : World, Ok w → Calls Tryz.prog 19 #[.agg TA, .agg #[vi ki i, vi ki u], .agg #[vi ki 0, vi ki 0, vi ki 0, vi ki n]] w fun r w' => r = zr (.tuple #[.agg #[vi ki I, vi ki V], vi ki E]) ∧ Below w.heap.size w w' := by rw [← hTA]; exact hAZ
   have AZ : Hid (∀ w : World, Ok w → Calls Tryz.prog 19 #[.agg TA, .agg #[vi ki i, vi ki u], .agg #[vi ki 0, vi ki 0, vi ki 0, vi ki n]] w fun r w' => r = zr (.tuple #[.agg #[vi ki I, vi ki V], vi ki E]) ∧ Below w.heap.size w w') := AZ'
   clear AZ' hAZ HOUT
   obtain ⟨c1_0, c1_1⟩ := (bo2 K3).c2
   go_wp2_with (first | (refine wpList_load_mid rfl 44 _ rfl ob 0 rfl T _ (K3.out.at ob T (by simp)).all Tryz.underlying44 rfl (by rw [hTl]; kernel_rfl) ?_; rw [hTA]) | fail)
   refine (AZ.out _ HO3.out).mono ?_
   rintro e W4 ⟨rfl, hb⟩
   have K4 := bsb K3 hb
   have HO4 : Hid (Ok W4) := HOB.out _ _ HO3.out hb
   clear hb K3 HO3
   clear c1_0 c1_1
   have M4 := bsn K4 [vi ki I, vi ki V] 36
   have N4 : Hid (Ok (W4.alloc (.cells #[vi ki I, vi ki V] 36))) := HOB.out _ _ HO4.out ((Below.refl _ W4).alloc (Nat.le_refl _) _)
   have lt4_0 := (K4.out.at (ob) T (by simp)).1
   have lt4_1 := (bo2 K4).1
   have lt4_2 := (K4.out.at (w.heap.size) Z (by simp)).1
   go_upto_region 5 with fail
   refine gen_code (fun WX => BS w ((W4.heap.size, [vi ki I, vi ki V]) :: [(ob, T), (w.heap.size + 1, [vi ki i, vi ki u]), (w.heap.size, Z)]) WX ∧ Ok WX) ⟨M4.out, N4.out⟩ ?_
   rintro W5 ⟨k9, o9⟩
   have K5 : Hid (BS w ((W4.heap.size, [vi ki I, vi ki V]) :: [(ob, T), (w.heap.size + 1, [vi ki i, vi ki u]), (w.heap.size, Z)]) W5) := k9
   have HO5 : Hid (Ok W5) := o9
   clear k9 o9 M4 N4 K4 HO4
   obtain ⟨c2_0, c2_1⟩ := (bo3 K5).c2
   go_wp2_with fail
   refine (A1.out _ (hL.out _ K5.out.1)).mono ?_
   rintro e W6 ⟨rfl, hb⟩
   have K6 := bsb K5 hb
   have HO6 : Hid (Ok W6) := HOB.out _ _ HO5.out hb
   clear hb K5 HO5
   clear c2_0 c2_1
   have M6 := bsn K6 [vi ki I, vi ki V] 36
   have N6 : Hid (Ok (W6.alloc (.cells #[vi ki I, vi ki V] 36))) := HOB.out _ _ HO6.out ((Below.refl _ W6).alloc (Nat.le_refl _) _)
   have lt6_0 := (bo1 K6).1
   have lt6_1 := (K6.out.at (ob) T (by simp)).1
   have lt6_2 := (bo3 K6).1
   have lt6_3 := (K6.out.at (w.heap.size) Z (by simp)).1
   go_upto_region 6 with fail
   refine gen_code (fun WX => BS w ((W6.heap.size, [vi ki I, vi ki V]) :: [(W4.heap.size, [vi ki I, vi ki V]), (ob, T), (w.heap.size + 1, [vi ki i, vi ki u]), (w.heap.size, Z)]) WX ∧ Ok WX) ⟨M6.out, N6.out⟩ ?_
   rintro W7 ⟨k9, o9⟩
   have K7 : Hid (BS w ((W6.heap.size, [vi ki I, vi ki V]) :: [(W4.heap.size, [vi ki I, vi ki V]), (ob, T), (w.heap.size + 1, [vi ki i, vi ki u]), (w.heap.size, Z)]) W7) := k9
   have HO7 : Hid (Ok W7) := o9
   clear k9 o9 M6 N6 K6 HO6
   obtain ⟨c0_0, c0_1⟩ := (bo1 K7).c2
   obtain ⟨c1_0, c1_1⟩ := (bo2 K7).c2
   go_upto_region 9 with fail
   clear c0_0 c0_1 c1_0 c1_1
   go_cut [14, 15] (fun v0 v1 wx => ∃ nb, v0 = .pointer (some ⟨nb, 0, none⟩) ∧ v1 = vi ki G ∧ Hid (BS w ((nb, [vi ki J, vi ki X]) :: [(W6.heap.size, [vi ki I, vi ki V]), (W4.heap.size, [vi ki I, vi ki V]), (ob, T), (w.heap.size + 1, [vi ki i, vi ki u]), (w.heap.size, Z)]) wx ∧ (∀ x ∈ ([(W6.heap.size, [vi ki I, vi ki V]), (W4.heap.size, [vi ki I, vi ki V]), (ob, T), (w.heap.size + 1, [vi ki i, vi ki u]), (w.heap.size, Z)] : List (Nat × List Value)), x.1 ≠ nb)))
   case first =>
    refine wp_region_held_drew (S := BS w [(W6.heap.size, [vi ki I, vi ki V]), (W4.heap.size, [vi ki I, vi ki V]), (ob, T), (w.heap.size + 1, [vi ki i, vi ki u]), (w.heap.size, Z)]) (by kernel_rfl) K7.out.drew (fun hHeld => ?_)
    refine tk (v := ?_) 1 ⟨some 55, _, _, _, _, none⟩ rfl ?_ ?_
    case refine_2 => (intro w9 hSw; obtain ⟨l0_0, l0_1⟩ := (hSw.at (W6.heap.size) [vi ki I, vi ki V] (by simp)).c2; obtain ⟨l1_0, l1_1⟩ := (hSw.at (W4.heap.size) [vi ki I, vi ki V] (by simp)).c2; obtain ⟨l3_0, l3_1⟩ := (hSw.at (w.heap.size + 1) [vi ki i, vi ki u] (by simp)).c2; clear hSw; go_simp; try with_reducible rfl)
    simp only [za, zb, zc, zd]
    refine tks 2 ⟨some 56, _, _, _, _, none⟩ rfl ?_
    simp only [za, zb, zc, zd]
    refine tks 3 ⟨some 57, _, _, _, _, none⟩ rfl ?_
    simp only [za, zb, zc, zd]
    refine wpAnyH_ready (rs := [0, 8]) (by kernel_rfl) (by simp) (AllReadyH.cons (o := ⟨some 54, _, _, _, _, none⟩) rfl (fun K hK => ?_) (AllReadyH.cons (o := ⟨some 14, _, _, _, _, none⟩) rfl (fun K hK => ?_) AllReadyH.nil))
    ·
     go_simp
     refine (UC.out _).mono ?_
     rintro e v1 ⟨rfl, hb1⟩
     refine hK.out _ _ (hHeld.below hb1) (fun hHeld => ?_)
     try (have HN2 := HN.out.below hb1; clear HN; have HN : Hid (NB _ _ _ _ _) := HN2; clear HN2)
     clear hK K hb1
     refine wpAnyH_ready (rs := [4, 8]) (by kernel_rfl) (by simp) (AllReadyH.cons (o := ⟨some 58, _, _, _, _, none⟩) rfl (fun K hK => ?_) (AllReadyH.cons (o := ⟨some 14, _, _, _, _, none⟩) rfl (fun K hK => ?_) AllReadyH.nil))
     ·
      go_simp
      refine (A2.out _ (hL.out _ hHeld.1)).mono ?_
      rintro e v2 ⟨rfl, hb2⟩
      refine hK.out _ _ (hHeld.below hb2) (fun hHeld => ?_)
      try (have HN2 := HN.out.below hb2; clear HN; have HN : Hid (NB _ _ _ _ _) := HN2; clear HN2)
      clear hK K hb2
      refine tks 5 ⟨some 53, _, _, _, _, none⟩ rfl ?_
      simp only [za, zb, zc, zd]
      refine tks 6 ⟨some 59, _, _, _, _, none⟩ rfl ?_
      simp only [za, zb, zc, zd]
      refine tks 7 ⟨some 60, _, _, _, _, none⟩ rfl ?_
      simp only [za, zb, zc, zd]
      refine rd 8 ⟨some 14, _, _, _, _, none⟩ rfl (fun K hK => ?_)
      go_simp
      have hH0 := hHeld
      refine hK.out _ _ (hHeld.alloc _) (fun hHeld => ?_)
      have HN : Hid (NB _ _ _ _ [vi ki 0, vi ki 0]) := hH0.nb hHeld
      clear hK K hH0
      refine rd 9 ⟨none, _, _, _, _, none⟩ rfl (fun K hK => ?_)
      refine (if_pos (by kernel_rfl)).mpr (wp_store_mid 36 _ _ rfl _ 0 #[vi ki J, vi ki X] rfl rfl HN.out.1.there (by kernel_rfl) (by simp [Value.oneCell']) (hK.out _ _ (hHeld.off HN.out.2.1 HN.out.2.2 _) (fun hHeld => ?_)))
      have HN2 : Hid (BS w ((_, [vi ki J, vi ki X]) :: [(W6.heap.size, [vi ki I, vi ki V]), (W4.heap.size, [vi ki I, vi ki V]), (ob, T), (w.heap.size + 1, [vi ki i, vi ki u]), (w.heap.size, Z)]) _ ∧ _) := ⟨⟨hHeld.1, fun x hx => by rcases List.mem_cons.1 hx with rfl | hx; exact ⟨HN.out.2.1, HN.out.1.setAll _ rfl⟩; exact hHeld.2 x hx⟩, HN.out.2.2⟩
      clear hK K HN
      refine tks 10 ⟨some 15, _, _, _, _, none⟩ rfl ?_
      simp only [za, zb, zc, zd]
      refine wpAnyH_done (by kernel_rfl) ?_ _
      go_wp2_with fail
      go_meet
      case rel => exact ⟨_, rfl, rfl, HN2.out⟩
     ·
      go_simp
      have hH0 := hHeld
      refine hK.out _ _ (hHeld.alloc _) (fun hHeld => ?_)
      have HN : Hid (NB _ _ _ _ [vi ki 0, vi ki 0]) := hH0.nb hHeld
      clear hK K hH0
      refine rd 4 ⟨some 58, _, _, _, _, none⟩ rfl (fun K hK => ?_)
      go_simp
      refine (A2.out _ (hL.out _ hHeld.1)).mono ?_
      rintro e v6 ⟨rfl, hb6⟩
      refine hK.out _ _ (hHeld.below hb6) (fun hHeld => ?_)
      try (have HN2 := HN.out.below hb6; clear HN; have HN : Hid (NB _ _ _ _ _) := HN2; clear HN2)
      clear hK K hb6
      refine tks 5 ⟨some 53, _, _, _, _, none⟩ rfl ?_
      simp only [za, zb, zc, zd]
      refine tks 6 ⟨some 59, _, _, _, _, none⟩ rfl ?_
      simp only [za, zb, zc, zd]
      refine tks 7 ⟨some 60, _, _, _, _, none⟩ rfl ?_
      simp only [za, zb, zc, zd]
      refine rd 9 ⟨none, _, _, _, _, none⟩ rfl (fun K hK => ?_)
      refine (if_pos (by kernel_rfl)).mpr (wp_store_mid 36 _ _ rfl _ 0 #[vi ki J, vi ki X] rfl rfl HN.out.1.there (by kernel_rfl) (by simp [Value.oneCell']) (hK.out _ _ (hHeld.off HN.out.2.1 HN.out.2.2 _) (fun hHeld => ?_)))
      have HN2 : Hid (BS w ((_, [vi ki J, vi ki X]) :: [(W6.heap.size, [vi ki I, vi ki V]), (W4.heap.size, [vi ki I, vi ki V]), (ob, T), (w.heap.size + 1, [vi ki i, vi ki u]), (w.heap.size, Z)]) _ ∧ _) := ⟨⟨hHeld.1, fun x hx => by rcases List.mem_cons.1 hx with rfl | hx; exact ⟨HN.out.2.1, HN.out.1.setAll _ rfl⟩; exact hHeld.2 x hx⟩, HN.out.2.2⟩
      clear hK K HN
      refine tks 10 ⟨some 15, _, _, _, _, none⟩ rfl ?_
      simp only [za, zb, zc, zd]
      refine wpAnyH_done (by kernel_rfl) ?_ _
      go_wp2_with fail
      go_meet
      case rel => exact ⟨_, rfl, rfl, HN2.out⟩
    ·
     go_simp
     have hH0 := hHeld
     refine hK.out _ _ (hHeld.alloc _) (fun hHeld => ?_)
     have HN : Hid (NB _ _ _ _ [vi ki 0, vi ki 0]) := hH0.nb hHeld
     clear hK K hH0
     refine rd 0 ⟨some 54, _, _, _, _, none⟩ rfl (fun K hK => ?_)
     go_simp
     refine (UC.out _).mono ?_
     rintro e v9 ⟨rfl, hb9⟩
     refine hK.out _ _ (hHeld.below hb9) (fun hHeld => ?_)
     try (have HN2 := HN.out.below hb9; clear HN; have HN : Hid (NB _ _ _ _ _) := HN2; clear HN2)
     clear hK K hb9
     refine rd 4 ⟨some 58, _, _, _, _, none⟩ rfl (fun K hK => ?_)
     go_simp
     refine (A2.out _ (hL.out _ hHeld.1)).mono ?_
     rintro e v10 ⟨rfl, hb10⟩
     refine hK.out _ _ (hHeld.below hb10) (fun hHeld => ?_)
     try (have HN2 := HN.out.below hb10; clear HN; have HN : Hid (NB _ _ _ _ _) := HN2; clear HN2)
     clear hK K hb10
     refine tks 5 ⟨some 53, _, _, _, _, none⟩ rfl ?_
     simp only [za, zb, zc, zd]
     refine tks 6 ⟨some 59, _, _, _, _, none⟩ rfl ?_
     simp only [za, zb, zc, zd]
     refine tks 7 ⟨some 60, _, _, _, _, none⟩ rfl ?_
     simp only [za, zb, zc, zd]
     refine rd 9 ⟨none, _, _, _, _, none⟩ rfl (fun K hK => ?_)
     refine (if_pos (by kernel_rfl)).mpr (wp_store_mid 36 _ _ rfl _ 0 #[vi ki J, vi ki X] rfl rfl HN.out.1.there (by kernel_rfl) (by simp [Value.oneCell']) (hK.out _ _ (hHeld.off HN.out.2.1 HN.out.2.2 _) (fun hHeld => ?_)))
     have HN2 : Hid (BS w ((_, [vi ki J, vi ki X]) :: [(W6.heap.size, [vi ki I, vi ki V]), (W4.heap.size, [vi ki I, vi ki V]), (ob, T), (w.heap.size + 1, [vi ki i, vi ki u]), (w.heap.size, Z)]) _ ∧ _) := ⟨⟨hHeld.1, fun x hx => by rcases List.mem_cons.1 hx with rfl | hx; exact ⟨HN.out.2.1, HN.out.1.setAll _ rfl⟩; exact hHeld.2 x hx⟩, HN.out.2.2⟩
     clear hK K HN
     refine tks 10 ⟨some 15, _, _, _, _, none⟩ rfl ?_
     simp only [za, zb, zc, zd]
     refine wpAnyH_done (by kernel_rfl) ?_ _
     go_wp2_with fail
     go_meet
     case rel => exact ⟨_, rfl, rfl, HN2.out⟩
   case rest =>
    obtain ⟨nb7, rfl, rfl, KK⟩ := hcut
    clear K7 HO7
    have K8 : Hid (BS w [(nb7, [vi ki J, vi ki X]), (W6.heap.size, [vi ki I, vi ki V]), (W4.heap.size, [vi ki I, vi ki V]), (ob, T), (w.heap.size + 1, [vi ki i, vi ki u]), (w.heap.size, Z)] wc) := KK.out.1
    have ne8_0 : W6.heap.size ≠ nb7 := KK.out.2 (W6.heap.size, [vi ki I, vi ki V]) (by simp)
    have ne8_1 : W4.heap.size ≠ nb7 := KK.out.2 (W4.heap.size, [vi ki I, vi ki V]) (by simp)
    have ne8_2 : ob ≠ nb7 := KK.out.2 (ob, T) (by simp)
    have ne8_3 : w.heap.size + 1 ≠ nb7 := KK.out.2 (w.heap.size + 1, [vi ki i, vi ki u]) (by simp)
    have ne8_4 : w.heap.size ≠ nb7 := KK.out.2 (w.heap.size, Z) (by simp)
    clear KK
    obtain ⟨c4_0, c4_1⟩ := (bo5 K8).c2
    go_wp2_with fail
    refine (A3.out _ (hL.out _ K8.out.1)).mono ?_
    rintro e W9 ⟨rfl, hb⟩
    have K9 := bsb K8 hb
    clear hb K8
    clear c4_0 c4_1
    have M9 := bsn K9 [vi ki L, vi ki Y] 36
    have lt9_0 := (bo1 K9).1
    have lt9_1 := (bo2 K9).1
    have lt9_2 := (bo3 K9).1
    have lt9_3 := (K9.out.at (ob) T (by simp)).1
    have lt9_4 := (bo5 K9).1
    have lt9_5 := (K9.out.at (w.heap.size) Z (by simp)).1
    go_upto_region 11 with fail
    refine gen_code (fun WX => BS w ((W9.heap.size, [vi ki L, vi ki Y]) :: [(nb7, [vi ki J, vi ki X]), (W6.heap.size, [vi ki I, vi ki V]), (W4.heap.size, [vi ki I, vi ki V]), (ob, T), (w.heap.size + 1, [vi ki i, vi ki u]), (w.heap.size, Z)]) WX) M9.out ?_
    intro W10 k9
    have K10 : Hid (BS w ((W9.heap.size, [vi ki L, vi ki Y]) :: [(nb7, [vi ki J, vi ki X]), (W6.heap.size, [vi ki I, vi ki V]), (W4.heap.size, [vi ki I, vi ki V]), (ob, T), (w.heap.size + 1, [vi ki i, vi ki u]), (w.heap.size, Z)]) W10) := k9
    clear k9 M9 K9
    rcases hF with hG | hH | ⟨rfl, rfl⟩
    ·have q1 : (G != 0) = true := by simpa using hG
     obtain ⟨c0_0, c0_1⟩ := (bo1 K10).c2
     obtain ⟨c1_0, c1_1⟩ := (bo2 K10).c2
     go_wp2_with fail
     refine (PR.out _ (hL.out _ K10.out.1)).mono ?_
     rintro e W98 ⟨rfl, hb⟩
     have K98 := bsb K10 hb
     clear hb K10
     clear c0_0 c0_1 c1_0 c1_1
     go_wp2_with fail
     refine (KN.out _ (hL.out _ K98.out.1)).mono ?_
     rintro e W99 ⟨rfl, hb⟩
     have K99 := bsb K98 hb
     clear hb
     go_wp2_with fail
     go_ret
     exact ⟨rfl, K99.out.1⟩
    ·by_cases hG : G = 0
     ·subst hG
      have q1 : (H != 0) = true := by simpa using hH
      obtain ⟨c0_0, c0_1⟩ := (bo1 K10).c2
      obtain ⟨c1_0, c1_1⟩ := (bo2 K10).c2
      go_wp2_with fail
      refine (PR.out _ (hL.out _ K10.out.1)).mono ?_
      rintro e W98 ⟨rfl, hb⟩
      have K98 := bsb K10 hb
      clear hb K10
      clear c0_0 c0_1 c1_0 c1_1
      go_wp2_with fail
      refine (KN.out _ (hL.out _ K98.out.1)).mono ?_
      rintro e W99 ⟨rfl, hb⟩
      have K99 := bsb K98 hb
      clear hb
      go_wp2_with fail
      go_ret
      exact ⟨rfl, K99.out.1⟩
     ·have q1 : (G != 0) = true := by simpa using hG
      obtain ⟨c0_0, c0_1⟩ := (bo1 K10).c2
      obtain ⟨c1_0, c1_1⟩ := (bo2 K10).c2
      go_wp2_with fail
      refine (PR.out _ (hL.out _ K10.out.1)).mono ?_
      rintro e W98 ⟨rfl, hb⟩
      have K98 := bsb K10 hb
      clear hb K10
      clear c0_0 c0_1 c1_0 c1_1
      go_wp2_with fail
      refine (KN.out _ (hL.out _ K98.out.1)).mono ?_
      rintro e W99 ⟨rfl, hb⟩
      have K99 := bsb K98 hb
      clear hb
      go_wp2_with fail
      go_ret
      exact ⟨rfl, K99.out.1⟩
    ·by_cases hG : G = 0
     ·by_cases hH : H = 0
      ·subst hG
       subst hH
       obtain ⟨c0_0, c0_1⟩ := (bo1 K10).c2
       obtain ⟨c1_0, c1_1⟩ := (bo2 K10).c2
       go_wp2_with fail
       refine (PR.out _ (hL.out _ K10.out.1)).mono ?_
       rintro e W98 ⟨rfl, hb⟩
       have K98 := bsb K10 hb
       clear hb K10
       clear c0_0 c0_1 c1_0 c1_1
       go_wp2_with fail
       refine (KN.out _ (hL.out _ K98.out.1)).mono ?_
       rintro e W99 ⟨rfl, hb⟩
       have K99 := bsb K98 hb
       clear hb
       go_wp2_with fail
       go_ret
       exact ⟨rfl, K99.out.1⟩
      ·subst hG
       have q1 : (H != 0) = true := by simpa using hH
       obtain ⟨c0_0, c0_1⟩ := (bo1 K10).c2
       obtain ⟨c1_0, c1_1⟩ := (bo2 K10).c2
       go_wp2_with fail
       refine (PR.out _ (hL.out _ K10.out.1)).mono ?_
       rintro e W98 ⟨rfl, hb⟩
       have K98 := bsb K10 hb
       clear hb K10
       clear c0_0 c0_1 c1_0 c1_1
       go_wp2_with fail
       refine (KN.out _ (hL.out _ K98.out.1)).mono ?_
       rintro e W99 ⟨rfl, hb⟩
       have K99 := bsb K98 hb
       clear hb
       go_wp2_with fail
       go_ret
       exact ⟨rfl, K99.out.1⟩
     ·have q1 : (G != 0) = true := by simpa using hG
      obtain ⟨c0_0, c0_1⟩ := (bo1 K10).c2
      obtain ⟨c1_0, c1_1⟩ := (bo2 K10).c2
      go_wp2_with fail
      refine (PR.out _ (hL.out _ K10.out.1)).mono ?_
      rintro e W98 ⟨rfl, hb⟩
      have K98 := bsb K10 hb
      clear hb K10
      clear c0_0 c0_1 c1_0 c1_1
      go_wp2_with fail
      refine (KN.out _ (hL.out _ K98.out.1)).mono ?_
      rintro e W99 ⟨rfl, hb⟩
      have K99 := bsb K98 hb
      clear hb
      go_wp2_with fail
      go_ret
      exact ⟨rfl, K99.out.1⟩
end Go.Proofs.YtklehbmghjcmaaaGreatDoor
namespace Go.Proofs.YtklehbmghjcmaaaGreatDoor
namespace Wd
def dg (v i : Nat) : Nat := v / 4294967296 ^ i % 4294967296
end Wd
end Go.Proofs.YtklehbmghjcmaaaGreatDoor
namespace Go.Proofs.YtklehbmghjcmaaaGreatDoor
open Go.RowKit
def Row (w : World) (b v : Nat) : Prop := v < 4294967296 ^ 6 ∧ b < w.heap.size ∧ ∀ i, i < 6 → w.cell? ⟨b, i, none⟩ = some (.int .u64 ((Wd.dg v i : Nat) : Int))
theorem Row.below {w w' : World} {B b v : Nat} (h : Row w b v) (hb : Below B w w') (hB : b < B) : Row w' b v :=
 ⟨h.1, Nat.lt_of_lt_of_le h.2.1 hb.size, fun i hi => (hb.cell (p := ⟨b, i, none⟩) hB).trans (h.2.2 i hi)⟩
theorem Row.drew {w : World} {b v : Nat} (h : Row w b v) : Row w.drew b v := h
structure Part (w wr : World) (N : Nat) (f : Nat → Nat) : Prop where
 below : Below N w wr
 size : N < wr.heap.size
 cell : ∀ j, j < 6 → wr.cell? ⟨N, j, none⟩ = some (.int .u64 ((f j : Nat) : Int))
 free : ∀ j, j < 6 → wr.frozen? ⟨N, j, none⟩ = false
theorem Part.congr {w wr : World} {N : Nat} {f g : Nat → Nat} (h : Part w wr N f) (e : ∀ j, j < 6 → f j = g j) : Part w wr N g :=
 ⟨h.below, h.size, fun j hj => by rw [← e j hj]; exact h.cell j hj, h.free⟩
theorem Part.drew {w wr : World} {N : Nat} {f : Nat → Nat} (h : Part w wr N f) : Part w wr.drew N f := ⟨h.below.drew, h.size, h.cell, h.free⟩
theorem Part.set {w wr : World} {N k x : Nat} {f : Nat → Nat} (h : Part w wr N f) (hk : k < 6) : Part w (wr.setCell ⟨N, k, none⟩ (.int .u64 (x : Int))) N (fun j => if j = k then x else f j) := by
 refine ⟨h.below.setCell (Nat.le_refl _) _, by simpa [World.setCell] using h.size, fun j hj => ?_, fun j hj => ?_⟩
 ·by_cases e : j = k
  ·subst e
   rw [if_pos rfl]
   exact World.cell?_setCell_same _ _ _ (h.cell j hj)
  ·rw [if_neg e]
   exact (World.cell?_setCell_other _ _ _ _ (fun x => by cases x; exact e rfl)).trans (h.cell j hj)
 ·rw [World.frozen?_setCell]; exact h.free j hj
theorem Part.row {w wr : World} {N v : Nat} (h : Part w wr N (fun j => Wd.dg v j)) (hv : v < 4294967296 ^ 6) : Row wr N v := ⟨hv, h.size, h.cell⟩
end Go.Proofs.YtklehbmghjcmaaaGreatDoor
namespace Go.Proofs.YtklehbmghjcmaaaGreatDoor
open Go.RowKit
theorem Row.alloc {w : World} {b v : Nat} (h : Row w b v) (o : Obj) : Row (w.alloc o) b v :=
 h.below ((Below.refl w.heap.size w).alloc (Nat.le_refl _) o) h.2.1
theorem Row.setCell {w : World} {b v : Nat} (h : Row w b v) {a : Addr} (ha : a.block ≠ b) (x : Value) : Row (w.setCell a x) b v :=
 ⟨h.1, by simpa [World.setCell] using h.2.1, fun i hi => (World.cell?_setCell_other _ _ _ _ (fun e => ha (by rw [e]))).trans (h.2.2 i hi)⟩
end Go.Proofs.YtklehbmghjcmaaaGreatDoor
namespace Go.Proofs.YtklehbmghjcmaaaGreatDoor
open Go.RowKit
end Go.Proofs.YtklehbmghjcmaaaGreatDoor
namespace Go.Proofs.YtklehbmghjcmaaaGreatDoor
open Go.RowKit
end Go.Proofs.YtklehbmghjcmaaaGreatDoor
namespace Go.Proofs.YtklehbmghjcmaaaGreatDoor
open Go.RowKit
end Go.Proofs.YtklehbmghjcmaaaGreatDoor
namespace Go.Proofs.YtklehbmghjcmaaaGreatDoor
open Go.RowKit
end Go.Proofs.YtklehbmghjcmaaaGreatDoor
namespace Go.Proofs.YtklehbmghjcmaaaGreatDoor
open Go.RowKit
def IsW (w : World) (v : Value) (x : Int) : Prop := ∃ b, v = .agg #[.bool (decide (x < 0)), .slice (some ⟨b, 0, none⟩) 6 6] ∧ Row w b x.natAbs
theorem IsW.below {w w1 : World} {v : Value} {x : Int} (h : IsW w v x) (hb : Below w.heap.size w w1) : IsW w1 v x := by
 obtain ⟨b, hv, hr⟩ := h
 exact ⟨b, hv, hr.below hb hr.2.1⟩
end Go.Proofs.YtklehbmghjcmaaaGreatDoor
namespace Go.Proofs.YtklehbmghjcmaaaGreatDoor
open Go.RowKit
theorem wsub_in (a b : Int) (h1 : -9223372036854775808 ≤ a) (h2 : a ≤ 9223372036854775807) (h3 : -9223372036854775808 ≤ b) (h4 : b ≤ 9223372036854775807)
  (l1 : -9223372036854775808 ≤ a - b) (l2 : a - b ≤ 9223372036854775807) (w : World) :
  Calls Tryz.prog 115 #[vi ki a, vi ki b] w fun e w' => e = zr (.tuple #[vi ki (a - b), vi ki 0]) ∧ w' = w := by
 by_cases h : b < 0
 ·have hs : a < a - b := by omega
  go_enter Tryz.func115, Tryz.ntmps115
  go_wp2
  go_ret2
  exact ⟨rfl, rfl⟩
 ·have hs : ¬ a < a - b := by omega
  go_enter Tryz.func115, Tryz.ntmps115
  go_wp2
  go_ret2
  exact ⟨rfl, rfl⟩
theorem wsub_out (a b : Int) (h1 : -9223372036854775808 ≤ a) (h2 : a ≤ 9223372036854775807) (h3 : -9223372036854775808 ≤ b) (h4 : b ≤ 9223372036854775807)
  (l : a - b < -9223372036854775808 ∨ 9223372036854775807 < a - b) (w : World) :
  Calls Tryz.prog 115 #[vi ki a, vi ki b] w fun e w' => e = zr (.tuple #[vi ki 0, vi ki 10]) ∧ w' = w := by
 rcases l with l | l
 ·have h : ¬ b < 0 := by omega
  have hs : a < wrap64 (a - b) := by unfold wrap64; omega
  clear l
  go_enter Tryz.func115, Tryz.ntmps115
  go_wp2
  go_ret2
  exact ⟨rfl, rfl⟩
 ·have h : b < 0 := by omega
  have hs : ¬ a < wrap64 (a - b) := by unfold wrap64; omega
  clear l
  go_enter Tryz.func115, Tryz.ntmps115
  go_wp2
  go_ret2
  exact ⟨rfl, rfl⟩
theorem wsub_any (a b : Int) (h1 : -9223372036854775808 ≤ a) (h2 : a ≤ 9223372036854775807) (h3 : -9223372036854775808 ≤ b) (h4 : b ≤ 9223372036854775807) (w : World) :
  Calls Tryz.prog 115 #[vi ki a, vi ki b] w fun e w' => e = zr (.tuple #[vi ki (smV (a - b)), vi ki (smE (a - b))]) ∧ w' = w := by
 by_cases l : -9223372036854775808 ≤ a - b ∧ a - b ≤ 9223372036854775807
 ·rw [smV_in l.1 l.2, smE_in l.1 l.2]; exact wsub_in a b h1 h2 h3 h4 l.1 l.2 w
 ·rw [smV_out (by omega), smE_out (by omega)]; exact wsub_out a b h1 h2 h3 h4 (by omega) w
end Go.Proofs.YtklehbmghjcmaaaGreatDoor
namespace Go.Proofs.YtklehbmghjcmaaaGreatDoor
open Go.RowKit
end Go.Proofs.YtklehbmghjcmaaaGreatDoor
namespace Go.Proofs.YtklehbmghjcmaaaGreatDoor
open Go.RowKit
end Go.Proofs.YtklehbmghjcmaaaGreatDoor
namespace Go.Proofs.YtklehbmghjcmaaaGreatDoor
open Go.RowKit
end Go.Proofs.YtklehbmghjcmaaaGreatDoor
namespace Go.Proofs.YtklehbmghjcmaaaGreatDoor
open Go.RowKit
end Go.Proofs.YtklehbmghjcmaaaGreatDoor
namespace Go.Proofs.YtklehbmghjcmaaaGreatDoor
open Go.RowKit
theorem Part.keep {w wr wr' : World} {N : Nat} {f : Nat → Nat} (h : Part w wr N f) (b : Below (N + 1) wr wr') : Part w wr' N f :=
 ⟨h.below.trans (b.mono (by omega)), Nat.lt_of_lt_of_le h.size b.size, fun j hj => (b.cell (p := ⟨N, j, none⟩) (Nat.lt_succ_self _)).trans (h.cell j hj), fun j hj => (b.frozen (p := ⟨N, j, none⟩) (Nat.lt_succ_self _)).trans (h.free j hj)⟩
end Go.Proofs.YtklehbmghjcmaaaGreatDoor
namespace Go.Proofs.YtklehbmghjcmaaaGreatDoor
open Go.RowKit
theorem over_math (x c : Int) (hc : c ≠ 0) : x.fdiv c = if (decide (x < 0) != decide (c < 0)) = true then (if x.natAbs % c.natAbs = 0 then -((x.natAbs / c.natAbs : Nat) : Int) else -((x.natAbs / c.natAbs : Nat) : Int) - 1) else ((x.natAbs / c.natAbs : Nat) : Int) := by
 have h := scale_math x 1 c x.natAbs c.natAbs (by simp) rfl hc
 rw [Int.mul_one, show decide ((1 : Int) < 0) = false from rfl, Bool.bne_false] at h
 exact h
end Go.Proofs.YtklehbmghjcmaaaGreatDoor
namespace Go.Proofs.YtklehbmghjcmaaaGreatDoor
open Go.RowKit
end Go.Proofs.YtklehbmghjcmaaaGreatDoor
namespace Go.Proofs.YtklehbmghjcmaaaGreatDoor
open Go.RowKit
theorem fdiv_in (a b : Int) (h1 : -9223372036854775808 ≤ a) (h2 : a ≤ 9223372036854775807) (hb : b ≠ 0) (h : a ≠ -9223372036854775808 ∨ b ≠ -1) : -9223372036854775808 ≤ a.fdiv b ∧ a.fdiv b ≤ 9223372036854775807 := by
 have hm := over_math a b hb
 by_cases o : b.natAbs = 1
 ·rw [o, Nat.div_one, Nat.mod_one, if_pos rfl] at hm
  rw [hm]
  rcases (show b = 1 ∨ b = -1 by omega) with rfl | rfl
  ·split
   ·omega
   ·rename_i hs
    have : ¬ a < 0 := fun hn => hs (by rw [decide_eq_true hn]; rfl)
    omega
  ·split <;> omega
 ·have hq : a.natAbs / b.natAbs ≤ a.natAbs / 2 := Nat.div_le_div_left (by omega) (by decide)
  generalize a.natAbs / b.natAbs = Q at *
  generalize a.natAbs % b.natAbs = R at *
  rw [hm]
  split
  ·split <;> omega
  ·omega
theorem div_any (a b : Int) (h1 : -9223372036854775808 ≤ a) (h2 : a ≤ 9223372036854775807) (h3 : -9223372036854775808 ≤ b) (h4 : b ≤ 9223372036854775807) (hb : b ≠ 0) (w : World) :
  Calls Tryz.prog 80 #[vi ki a, vi ki b] w fun e w' => e = zr (.tuple #[vi ki (smV (a.fdiv b)), vi ki (smE (a.fdiv b))]) ∧ w' = w := by
 by_cases h : a ≠ -9223372036854775808 ∨ b ≠ -1
 ·obtain ⟨g1, g2⟩ := fdiv_in a b h1 h2 hb h
  rw [smV_in g1 g2, smE_in g1 g2]
  exact div_in a b h1 h2 h3 h4 hb h w
 ·obtain ⟨rfl, rfl⟩ : a = -9223372036854775808 ∧ b = -1 := by omega
  have e : (-9223372036854775808 : Int).fdiv (-1) = 9223372036854775808 := by decide
  rw [e, smV_out (by omega), smE_out (by omega)]
  exact div_edge w
end Go.Proofs.YtklehbmghjcmaaaGreatDoor
