import Derived.Test.YtklehbmghjcmaaaGreatDoorQz
import Derived.Test.YtklehbmghjcmaaaGreatDoorQ7
import Derived.Deep.Cut
import Derived.Deep.DeepCutAuto
import Derived.Shelf.Abstract
open Go.Value renaming int → vi
open Go.IntKind renaming i64 → ki
open List renaming setIfInBounds_toArray → zb, set_cons_zero → zc, set_cons_succ → zd
open Go.Act renaming put → za
open Go.Ending renaming returned → zr
set_option maxRecDepth 100000
set_option maxHeartbeats 16000000
set_option linter.unusedVariables false
namespace Go.Proofs.YtklehbmghjcmaaaGreatDoor
open Go.RowKit
theorem fy_any (y wi ma g : Int) (y1 : -1000000 ≤ y) (y2 : y ≤ 1000000) (w1 : 0 ≤ wi) (w2 : wi ≤ 1) (g1 : 0 ≤ g) (g2 : g ≤ 1000)
  (MO : Hid (∀ w : World, Calls Tryz.prog 117 #[vi ki (y - wi), vi ki ma] w fun r' w' => r' = zr (.tuple #[vi ki g, vi ki 0]) ∧ w' = w))
  (w : World) :
  Calls Tryz.prog 157 #[vi ki y, vi ki wi, vi ki ma] w fun r' w' => r' = zr (vi ki (y - g)) ∧ Below w.heap.size w w' := by
 have K0 : Hid (BS w [] w) := (BS.start w)
 go_enter Tryz.func157, Tryz.ntmps157
 go_wp2_with fail
 refine (MO.out _).mono ?_
 rintro e W1 ⟨rfl, rfl⟩
 go_wp2
 go_ret
 exact ⟨rfl, K0.out.1⟩
theorem wk_0 (i d n : Int) (hn : n = 0)
  (WD : Hid (∀ w : World, Calls Tryz.prog 191 #[vi ki d] w fun r' w' => r' = zr (vi ki n) ∧ w' = w))
  (w : World) :
  Calls Tryz.prog 154 #[.agg #[vi ki i, vi ki d]] w fun r' w' => r' = zr (vi ki 7) ∧ Below w.heap.size w w' := by
 subst hn
 have K0 := bsn1 w [vi ki i, vi ki d] 111
 go_enter Tryz.func154, Tryz.ntmps154
 go_wp2_with fail
 refine (WD.out _).mono ?_
 rintro e W1 ⟨rfl, rfl⟩
 go_wp2
 go_ret
 exact ⟨rfl, K0.out.1⟩
theorem wk_1 (i d n : Int) (hn : n ≠ 0)
  (WD : Hid (∀ w : World, Calls Tryz.prog 191 #[vi ki d] w fun r' w' => r' = zr (vi ki n) ∧ w' = w))
  (w : World) :
  Calls Tryz.prog 154 #[.agg #[vi ki i, vi ki d]] w fun r' w' => r' = zr (vi ki n) ∧ Below w.heap.size w w' := by
 have n_n : (n != 0) = true := bne_iff_ne.2 hn
 have K0 := bsn1 w [vi ki i, vi ki d] 111
 go_enter Tryz.func154, Tryz.ntmps154
 go_wp2_with fail
 refine (WD.out _).mono ?_
 rintro e W1 ⟨rfl, rfl⟩
 go_wp2
 go_ret
 exact ⟨rfl, K0.out.1⟩
theorem fd_6 (d y m q n v e : Int) (n1 : 1 ≤ n) (n2 : n ≤ 7)
  (PA : Hid (∀ w : World, Cvl.Lens w → Calls Tryz.prog 153 #[.agg #[vi ki 0, vi ki d]] w fun r' w' => r' = zr (.tuple #[vi ki y, vi ki m, vi ki q, vi ki 0]) ∧ Below w.heap.size w w'))
  (WD : Hid (∀ w : World, Calls Tryz.prog 154 #[.agg #[vi ki 0, vi ki d]] w fun r' w' => r' = zr (vi ki n) ∧ Below w.heap.size w w'))
  (DA : Hid (∀ w : World, Cvl.Lens w → Calls Tryz.prog 99 #[.agg #[vi ki 0, vi ki d], vi ki (1 - n)] w fun r' w' => r' = zr (.tuple #[.agg #[vi ki 0, vi ki v], vi ki e]) ∧ Below w.heap.size w w'))
  (w : World) (hL : Hid (∀ W : World, Below w.heap.size w W → Cvl.Lens W)) :
  Calls Tryz.prog 109 #[vi ki 6, .agg #[vi ki 0, vi ki d]] w fun r' w' => r' = zr (.tuple #[.agg #[vi ki 0, vi ki v], vi ki e]) ∧ Below w.heap.size w w' := by
 have t1 : IntKind.i64.wrap (1 - n) = 1 - n := by rw [IntKind.wrap_i64]; omega
 have K0 := bsn2 w [vi ki 0, vi ki d] 111 [vi ki 0, vi ki 0] 111
 go_enter Tryz.func109, Tryz.ntmps109
 go_wp2_with fail
 refine (PA.out _ (hL.out _ K0.out.1)).mono ?_
 rintro e W1 ⟨rfl, hb⟩
 have K1 := bsb K0 hb
 clear hb K0
 obtain ⟨c1_0_0, c1_0_1⟩ := (bo1 K1).c2
 obtain ⟨c1_1_0, c1_1_1⟩ := (bo2 K1).c2
 go_upto_region 4 with fail
 have lq1_0 := (K1.out.at (w.heap.size + 1) [vi ki 0, vi ki 0] (by simp)).1
 have lq1_1 := (K1.out.at (w.heap.size) [vi ki 0, vi ki d] (by simp)).1
 have HN : Hid (NB w [(w.heap.size, [vi ki 0, vi ki d])] W1.drew (w.heap.size + 1) [vi ki 0, vi ki 0]) := ⟨K1.out.at (w.heap.size + 1) [vi ki 0, vi ki 0] (by simp), (K1.out.2 (w.heap.size + 1, [vi ki 0, vi ki 0]) (by simp)).1, by intro x hx; simp only [List.mem_cons, List.not_mem_nil, or_false] at hx; subst hx; simp only []; omega⟩
 have KR : Hid (BS w [(w.heap.size, [vi ki 0, vi ki d])] W1) := K1.out.perm (by intro x hx; simp only [List.mem_cons, List.not_mem_nil, or_false] at hx ⊢; simp [hx])
 clear c1_0_0 c1_0_1 c1_1_0 c1_1_1
 go_cut [5] (fun v0 wx => v0 = vi ki e ∧ Hid (BS w ((w.heap.size + 1, [vi ki 0, vi ki v]) :: [(w.heap.size, [vi ki 0, vi ki d])]) wx))
 case first =>
  refine wp_region_held_drew (S := BS w [(w.heap.size, [vi ki 0, vi ki d])]) (by kernel_rfl) KR.out.drew (fun hHeld => ?_)
  refine tk (v := ?_) 0 ⟨some 20, _, _, _, _, none⟩ rfl ?_ ?_
  case refine_2 => (intro w9 hSw; obtain ⟨l0_0, l0_1⟩ := (hSw.at (w.heap.size) [vi ki 0, vi ki d] (by simp)).c2; clear hSw; go_simp; try with_reducible rfl)
  simp only [za, zb, zc, zd]
  refine tk (v := ?_) 1 ⟨some 21, _, _, _, _, none⟩ rfl ?_ ?_
  case refine_2 => (intro w9 hSw; obtain ⟨l0_0, l0_1⟩ := (hSw.at (w.heap.size) [vi ki 0, vi ki d] (by simp)).c2; clear hSw; go_simp; try with_reducible rfl)
  simp only [za, zb, zc, zd]
  refine rd 2 ⟨some 22, _, _, _, _, none⟩ rfl (fun K hK => ?_)
  go_simp
  refine (WD.out _).mono ?_
  rintro e v1 ⟨rfl, hb1⟩
  refine hK.out _ _ (hHeld.below hb1) (fun hHeld => ?_)
  have HN2 := HN.out.below hb1
  clear HN
  have HN : Hid (NB _ _ _ _ _) := HN2
  clear HN2
  clear hK K hb1
  refine tks 3 ⟨some 23, _, _, _, _, none⟩ rfl ?_
  simp only [za, zb, zc, zd]
  refine rd 4 ⟨some 24, _, _, _, _, none⟩ rfl (fun K hK => ?_)
  go_simp
  refine (DA.out _ (hL.out _ hHeld.1)).mono ?_
  rintro e v2 ⟨rfl, hb2⟩
  refine hK.out _ _ (hHeld.below hb2) (fun hHeld => ?_)
  have HN2 := HN.out.below hb2
  clear HN
  have HN : Hid (NB _ _ _ _ _) := HN2
  clear HN2
  clear hK K hb2
  refine tks 5 ⟨some 25, _, _, _, _, none⟩ rfl ?_
  simp only [za, zb, zc, zd]
  refine tks 6 ⟨some 26, _, _, _, _, none⟩ rfl ?_
  simp only [za, zb, zc, zd]
  refine rd 7 ⟨none, _, _, _, _, none⟩ rfl (fun K hK => ?_)
  refine (if_pos (by kernel_rfl)).mpr (wp_store_mid 111 _ _ rfl _ 0 #[vi ki 0, vi ki v] rfl rfl HN.out.1.there (by kernel_rfl) (by simp [Value.oneCell']) (hK.out _ _ (hHeld.off HN.out.2.1 HN.out.2.2 _) (fun hHeld => ?_)))
  have HN2 : Hid (BS w ((_, [vi ki 0, vi ki v]) :: [(w.heap.size, [vi ki 0, vi ki d])]) _) := ⟨hHeld.1, fun x hx => by rcases List.mem_cons.1 hx with rfl | hx; exact ⟨HN.out.2.1, HN.out.1.setAll _ rfl⟩; exact hHeld.2 x hx⟩
  clear hK K HN
  refine tks 8 ⟨some 5, _, _, _, _, none⟩ rfl ?_
  simp only [za, zb, zc, zd]
  refine wpAnyH_done (by kernel_rfl) ?_ _
  go_wp2_with fail
  go_meet
  case rel => exact ⟨rfl, HN2⟩
 case rest =>
  obtain ⟨rfl, K2⟩ := hcut
  clear K1 HN KR lq1_0 lq1_1
  have y0 : wc.cell? ⟨w.heap.size + 1, 0, none⟩ = some (vi ki 0) := (K2.out.at (w.heap.size + 1) [vi ki 0, vi ki v] (by simp)).c 0 rfl
  have y1 : wc.cell? ⟨w.heap.size + 1, 1, none⟩ = some (vi ki v) := (K2.out.at (w.heap.size + 1) [vi ki 0, vi ki v] (by simp)).c 1 rfl
  go_wp2
  exact bodyPost_ret (v := .tuple #[.agg #[vi ki 0, vi ki v], vi ki e]) (by simp [results, Tryz.results109, go_sem, y0, y1]) rfl ⟨rfl, K2.out.1⟩
theorem fd_7 (d y m q v e : Int)
  (PA : Hid (∀ w : World, Cvl.Lens w → Calls Tryz.prog 153 #[.agg #[vi ki 0, vi ki d]] w fun r' w' => r' = zr (.tuple #[vi ki y, vi ki m, vi ki q, vi ki 0]) ∧ Below w.heap.size w w'))
  (MK : Hid (∀ w : World, Cvl.Lens w → Calls Tryz.prog 155 #[vi ki y, vi ki m, vi ki 1] w fun r' w' => r' = zr (.tuple #[.agg #[vi ki 0, vi ki v], vi ki e]) ∧ Below w.heap.size w w'))
  (w : World) (hL : Hid (∀ W : World, Below w.heap.size w W → Cvl.Lens W)) :
  Calls Tryz.prog 109 #[vi ki 7, .agg #[vi ki 0, vi ki d]] w fun r' w' => r' = zr (.tuple #[.agg #[vi ki 0, vi ki v], vi ki e]) ∧ Below w.heap.size w w' := by
 have K0 := bsn2 w [vi ki 0, vi ki d] 111 [vi ki 0, vi ki 0] 111
 go_enter Tryz.func109, Tryz.ntmps109
 go_wp2_with fail
 refine (PA.out _ (hL.out _ K0.out.1)).mono ?_
 rintro e W1 ⟨rfl, hb⟩
 have K1 := bsb K0 hb
 clear hb K0
 obtain ⟨c1_0_0, c1_0_1⟩ := (bo1 K1).c2
 obtain ⟨c1_1_0, c1_1_1⟩ := (bo2 K1).c2
 go_wp2_with fail
 refine (MK.out _ (hL.out _ K1.out.1)).mono ?_
 rintro e W2 ⟨rfl, hb⟩
 have K2 := bsb K1 hb
 clear c1_0_0 c1_0_1 c1_1_0 c1_1_1
 clear hb K1
 obtain ⟨c2_0_0, c2_0_1⟩ := (bo1 K2).c2
 obtain ⟨z2_0_0, z2_0_1⟩ := (bo1 K2).f2
 obtain ⟨c2_1_0, c2_1_1⟩ := (bo2 K2).c2
 have XF : Hid (Bx (W2.setCells (w.heap.size + 1) 0 [vi ki 0, vi ki v]) (w.heap.size + 1) [vi ki 0, vi ki v]) := (K2.out.at (w.heap.size + 1) [vi ki 0, vi ki 0] (by simp)).setAll _ rfl
 have BF : Hid (Below w.heap.size w (W2.setCells (w.heap.size + 1) 0 [vi ki 0, vi ki v])) := below_setCells (by omega) _ _ _ K2.out.1
 have y0 := XF.out.c 0 rfl
 have y1 := XF.out.c 1 rfl
 simp only [World.setCells, Nat.zero_add] at y0 y1
 clear XF
 go_wp2
 exact bodyPost_ret (v := .tuple #[.agg #[vi ki 0, vi ki v], vi ki e]) (by simp [results, Tryz.results109, go_sem, y0, y1]) rfl ⟨rfl, BF.out⟩
theorem fd_8 (d y m q n v e : Int) (n1 : 1 ≤ n) (n2 : n ≤ 4)
  (PA : Hid (∀ w : World, Cvl.Lens w → Calls Tryz.prog 153 #[.agg #[vi ki 0, vi ki d]] w fun r' w' => r' = zr (.tuple #[vi ki y, vi ki m, vi ki q, vi ki 0]) ∧ Below w.heap.size w w'))
  (QU : Hid (∀ w : World, Calls Tryz.prog 156 #[vi ki m] w fun r' w' => r' = zr (vi ki n) ∧ w' = w))
  (MK : Hid (∀ w : World, Cvl.Lens w → Calls Tryz.prog 155 #[vi ki y, vi ki (3 * (n - 1) + 1), vi ki 1] w fun r' w' => r' = zr (.tuple #[.agg #[vi ki 0, vi ki v], vi ki e]) ∧ Below w.heap.size w w'))
  (w : World) (hL : Hid (∀ W : World, Below w.heap.size w W → Cvl.Lens W)) :
  Calls Tryz.prog 109 #[vi ki 8, .agg #[vi ki 0, vi ki d]] w fun r' w' => r' = zr (.tuple #[.agg #[vi ki 0, vi ki v], vi ki e]) ∧ Below w.heap.size w w' := by
 have K0 := bsn2 w [vi ki 0, vi ki d] 111 [vi ki 0, vi ki 0] 111
 go_enter Tryz.func109, Tryz.ntmps109
 go_wp2_with fail
 refine (PA.out _ (hL.out _ K0.out.1)).mono ?_
 rintro e W1 ⟨rfl, hb⟩
 have K1 := bsb K0 hb
 clear hb K0
 obtain ⟨c1_0_0, c1_0_1⟩ := (bo1 K1).c2
 obtain ⟨c1_1_0, c1_1_1⟩ := (bo2 K1).c2
 go_wp2_with fail
 refine (QU.out _).mono ?_
 rintro e W2 ⟨rfl, hw⟩
 rw [hw]
 clear hw W2
 go_wp2_with fail
 refine (MK.out _ (hL.out _ K1.out.1)).mono ?_
 rintro e W3 ⟨rfl, hb⟩
 have K3 := bsb K1 hb
 clear c1_0_0 c1_0_1 c1_1_0 c1_1_1
 clear hb K1
 obtain ⟨c3_0_0, c3_0_1⟩ := (bo1 K3).c2
 obtain ⟨z3_0_0, z3_0_1⟩ := (bo1 K3).f2
 obtain ⟨c3_1_0, c3_1_1⟩ := (bo2 K3).c2
 have XF : Hid (Bx (W3.setCells (w.heap.size + 1) 0 [vi ki 0, vi ki v]) (w.heap.size + 1) [vi ki 0, vi ki v]) := (K3.out.at (w.heap.size + 1) [vi ki 0, vi ki 0] (by simp)).setAll _ rfl
 have BF : Hid (Below w.heap.size w (W3.setCells (w.heap.size + 1) 0 [vi ki 0, vi ki v])) := below_setCells (by omega) _ _ _ K3.out.1
 have y0 := XF.out.c 0 rfl
 have y1 := XF.out.c 1 rfl
 simp only [World.setCells, Nat.zero_add] at y0 y1
 clear XF
 go_wp2
 exact bodyPost_ret (v := .tuple #[.agg #[vi ki 0, vi ki v], vi ki e]) (by simp [results, Tryz.results109, go_sem, y0, y1]) rfl ⟨rfl, BF.out⟩
theorem fd_9 (d y m q v e : Int)
  (PA : Hid (∀ w : World, Cvl.Lens w → Calls Tryz.prog 153 #[.agg #[vi ki 0, vi ki d]] w fun r' w' => r' = zr (.tuple #[vi ki y, vi ki m, vi ki q, vi ki 0]) ∧ Below w.heap.size w w'))
  (MK : Hid (∀ w : World, Cvl.Lens w → Calls Tryz.prog 155 #[vi ki y, vi ki 1, vi ki 1] w fun r' w' => r' = zr (.tuple #[.agg #[vi ki 0, vi ki v], vi ki e]) ∧ Below w.heap.size w w'))
  (w : World) (hL : Hid (∀ W : World, Below w.heap.size w W → Cvl.Lens W)) :
  Calls Tryz.prog 109 #[vi ki 9, .agg #[vi ki 0, vi ki d]] w fun r' w' => r' = zr (.tuple #[.agg #[vi ki 0, vi ki v], vi ki e]) ∧ Below w.heap.size w w' := by
 have K0 := bsn2 w [vi ki 0, vi ki d] 111 [vi ki 0, vi ki 0] 111
 go_enter Tryz.func109, Tryz.ntmps109
 go_wp2_with fail
 refine (PA.out _ (hL.out _ K0.out.1)).mono ?_
 rintro e W1 ⟨rfl, hb⟩
 have K1 := bsb K0 hb
 clear hb K0
 obtain ⟨c1_0_0, c1_0_1⟩ := (bo1 K1).c2
 obtain ⟨c1_1_0, c1_1_1⟩ := (bo2 K1).c2
 go_wp2_with fail
 refine (MK.out _ (hL.out _ K1.out.1)).mono ?_
 rintro e W2 ⟨rfl, hb⟩
 have K2 := bsb K1 hb
 clear c1_0_0 c1_0_1 c1_1_0 c1_1_1
 clear hb K1
 obtain ⟨c2_0_0, c2_0_1⟩ := (bo1 K2).c2
 obtain ⟨z2_0_0, z2_0_1⟩ := (bo1 K2).f2
 obtain ⟨c2_1_0, c2_1_1⟩ := (bo2 K2).c2
 have XF : Hid (Bx (W2.setCells (w.heap.size + 1) 0 [vi ki 0, vi ki v]) (w.heap.size + 1) [vi ki 0, vi ki v]) := (K2.out.at (w.heap.size + 1) [vi ki 0, vi ki 0] (by simp)).setAll _ rfl
 have BF : Hid (Below w.heap.size w (W2.setCells (w.heap.size + 1) 0 [vi ki 0, vi ki v])) := below_setCells (by omega) _ _ _ K2.out.1
 have y0 := XF.out.c 0 rfl
 have y1 := XF.out.c 1 rfl
 simp only [World.setCells, Nat.zero_add] at y0 y1
 clear XF
 go_wp2
 exact bodyPost_ret (v := .tuple #[.agg #[vi ki 0, vi ki v], vi ki e]) (by simp [results, Tryz.results109, go_sem, y0, y1]) rfl ⟨rfl, BF.out⟩
theorem fd_10 (d y m q x v e : Int)
  (PA : Hid (∀ w : World, Cvl.Lens w → Calls Tryz.prog 153 #[.agg #[vi ki 0, vi ki d]] w fun r' w' => r' = zr (.tuple #[vi ki y, vi ki m, vi ki q, vi ki 0]) ∧ Below w.heap.size w w'))
  (FY : Hid (∀ w : World, Calls Tryz.prog 157 #[vi ki y, vi ki 0, vi ki 10] w fun r' w' => r' = zr (vi ki x) ∧ Below w.heap.size w w'))
  (MK : Hid (∀ w : World, Cvl.Lens w → Calls Tryz.prog 155 #[vi ki x, vi ki 1, vi ki 1] w fun r' w' => r' = zr (.tuple #[.agg #[vi ki 0, vi ki v], vi ki e]) ∧ Below w.heap.size w w'))
  (w : World) (hL : Hid (∀ W : World, Below w.heap.size w W → Cvl.Lens W)) :
  Calls Tryz.prog 109 #[vi ki 10, .agg #[vi ki 0, vi ki d]] w fun r' w' => r' = zr (.tuple #[.agg #[vi ki 0, vi ki v], vi ki e]) ∧ Below w.heap.size w w' := by
 have K0 := bsn2 w [vi ki 0, vi ki d] 111 [vi ki 0, vi ki 0] 111
 go_enter Tryz.func109, Tryz.ntmps109
 go_wp2_with fail
 refine (PA.out _ (hL.out _ K0.out.1)).mono ?_
 rintro e W1 ⟨rfl, hb⟩
 have K1 := bsb K0 hb
 clear hb K0
 obtain ⟨c1_0_0, c1_0_1⟩ := (bo1 K1).c2
 obtain ⟨c1_1_0, c1_1_1⟩ := (bo2 K1).c2
 go_wp2_with fail
 refine (FY.out _).mono ?_
 rintro e W2 ⟨rfl, hb⟩
 have K2 := bsb K1 hb
 clear c1_0_0 c1_0_1 c1_1_0 c1_1_1
 clear hb K1
 obtain ⟨c2_0_0, c2_0_1⟩ := (bo1 K2).c2
 obtain ⟨c2_1_0, c2_1_1⟩ := (bo2 K2).c2
 go_wp2_with fail
 refine (MK.out _ (hL.out _ K2.out.1)).mono ?_
 rintro e W3 ⟨rfl, hb⟩
 have K3 := bsb K2 hb
 clear c2_0_0 c2_0_1 c2_1_0 c2_1_1
 clear hb K2
 obtain ⟨c3_0_0, c3_0_1⟩ := (bo1 K3).c2
 obtain ⟨z3_0_0, z3_0_1⟩ := (bo1 K3).f2
 obtain ⟨c3_1_0, c3_1_1⟩ := (bo2 K3).c2
 have XF : Hid (Bx (W3.setCells (w.heap.size + 1) 0 [vi ki 0, vi ki v]) (w.heap.size + 1) [vi ki 0, vi ki v]) := (K3.out.at (w.heap.size + 1) [vi ki 0, vi ki 0] (by simp)).setAll _ rfl
 have BF : Hid (Below w.heap.size w (W3.setCells (w.heap.size + 1) 0 [vi ki 0, vi ki v])) := below_setCells (by omega) _ _ _ K3.out.1
 have y0 := XF.out.c 0 rfl
 have y1 := XF.out.c 1 rfl
 simp only [World.setCells, Nat.zero_add] at y0 y1
 clear XF
 go_wp2
 exact bodyPost_ret (v := .tuple #[.agg #[vi ki 0, vi ki v], vi ki e]) (by simp [results, Tryz.results109, go_sem, y0, y1]) rfl ⟨rfl, BF.out⟩
theorem fd_11 (d y m q x v e : Int)
  (PA : Hid (∀ w : World, Cvl.Lens w → Calls Tryz.prog 153 #[.agg #[vi ki 0, vi ki d]] w fun r' w' => r' = zr (.tuple #[vi ki y, vi ki m, vi ki q, vi ki 0]) ∧ Below w.heap.size w w'))
  (FY : Hid (∀ w : World, Calls Tryz.prog 157 #[vi ki y, vi ki 1, vi ki 100] w fun r' w' => r' = zr (vi ki x) ∧ Below w.heap.size w w'))
  (MK : Hid (∀ w : World, Cvl.Lens w → Calls Tryz.prog 155 #[vi ki x, vi ki 1, vi ki 1] w fun r' w' => r' = zr (.tuple #[.agg #[vi ki 0, vi ki v], vi ki e]) ∧ Below w.heap.size w w'))
  (w : World) (hL : Hid (∀ W : World, Below w.heap.size w W → Cvl.Lens W)) :
  Calls Tryz.prog 109 #[vi ki 11, .agg #[vi ki 0, vi ki d]] w fun r' w' => r' = zr (.tuple #[.agg #[vi ki 0, vi ki v], vi ki e]) ∧ Below w.heap.size w w' := by
 have K0 := bsn2 w [vi ki 0, vi ki d] 111 [vi ki 0, vi ki 0] 111
 go_enter Tryz.func109, Tryz.ntmps109
 go_wp2_with fail
 refine (PA.out _ (hL.out _ K0.out.1)).mono ?_
 rintro e W1 ⟨rfl, hb⟩
 have K1 := bsb K0 hb
 clear hb K0
 obtain ⟨c1_0_0, c1_0_1⟩ := (bo1 K1).c2
 obtain ⟨c1_1_0, c1_1_1⟩ := (bo2 K1).c2
 go_wp2_with fail
 refine (FY.out _).mono ?_
 rintro e W2 ⟨rfl, hb⟩
 have K2 := bsb K1 hb
 clear c1_0_0 c1_0_1 c1_1_0 c1_1_1
 clear hb K1
 obtain ⟨c2_0_0, c2_0_1⟩ := (bo1 K2).c2
 obtain ⟨c2_1_0, c2_1_1⟩ := (bo2 K2).c2
 go_wp2_with fail
 refine (MK.out _ (hL.out _ K2.out.1)).mono ?_
 rintro e W3 ⟨rfl, hb⟩
 have K3 := bsb K2 hb
 clear c2_0_0 c2_0_1 c2_1_0 c2_1_1
 clear hb K2
 obtain ⟨c3_0_0, c3_0_1⟩ := (bo1 K3).c2
 obtain ⟨z3_0_0, z3_0_1⟩ := (bo1 K3).f2
 obtain ⟨c3_1_0, c3_1_1⟩ := (bo2 K3).c2
 have XF : Hid (Bx (W3.setCells (w.heap.size + 1) 0 [vi ki 0, vi ki v]) (w.heap.size + 1) [vi ki 0, vi ki v]) := (K3.out.at (w.heap.size + 1) [vi ki 0, vi ki 0] (by simp)).setAll _ rfl
 have BF : Hid (Below w.heap.size w (W3.setCells (w.heap.size + 1) 0 [vi ki 0, vi ki v])) := below_setCells (by omega) _ _ _ K3.out.1
 have y0 := XF.out.c 0 rfl
 have y1 := XF.out.c 1 rfl
 simp only [World.setCells, Nat.zero_add] at y0 y1
 clear XF
 go_wp2
 exact bodyPost_ret (v := .tuple #[.agg #[vi ki 0, vi ki v], vi ki e]) (by simp [results, Tryz.results109, go_sem, y0, y1]) rfl ⟨rfl, BF.out⟩
theorem fd_12 (d y m q x v e : Int)
  (PA : Hid (∀ w : World, Cvl.Lens w → Calls Tryz.prog 153 #[.agg #[vi ki 0, vi ki d]] w fun r' w' => r' = zr (.tuple #[vi ki y, vi ki m, vi ki q, vi ki 0]) ∧ Below w.heap.size w w'))
  (FY : Hid (∀ w : World, Calls Tryz.prog 157 #[vi ki y, vi ki 1, vi ki 1000] w fun r' w' => r' = zr (vi ki x) ∧ Below w.heap.size w w'))
  (MK : Hid (∀ w : World, Cvl.Lens w → Calls Tryz.prog 155 #[vi ki x, vi ki 1, vi ki 1] w fun r' w' => r' = zr (.tuple #[.agg #[vi ki 0, vi ki v], vi ki e]) ∧ Below w.heap.size w w'))
  (w : World) (hL : Hid (∀ W : World, Below w.heap.size w W → Cvl.Lens W)) :
  Calls Tryz.prog 109 #[vi ki 12, .agg #[vi ki 0, vi ki d]] w fun r' w' => r' = zr (.tuple #[.agg #[vi ki 0, vi ki v], vi ki e]) ∧ Below w.heap.size w w' := by
 have K0 := bsn2 w [vi ki 0, vi ki d] 111 [vi ki 0, vi ki 0] 111
 go_enter Tryz.func109, Tryz.ntmps109
 go_wp2_with fail
 refine (PA.out _ (hL.out _ K0.out.1)).mono ?_
 rintro e W1 ⟨rfl, hb⟩
 have K1 := bsb K0 hb
 clear hb K0
 obtain ⟨c1_0_0, c1_0_1⟩ := (bo1 K1).c2
 obtain ⟨c1_1_0, c1_1_1⟩ := (bo2 K1).c2
 go_wp2_with fail
 refine (FY.out _).mono ?_
 rintro e W2 ⟨rfl, hb⟩
 have K2 := bsb K1 hb
 clear c1_0_0 c1_0_1 c1_1_0 c1_1_1
 clear hb K1
 obtain ⟨c2_0_0, c2_0_1⟩ := (bo1 K2).c2
 obtain ⟨c2_1_0, c2_1_1⟩ := (bo2 K2).c2
 go_wp2_with fail
 refine (MK.out _ (hL.out _ K2.out.1)).mono ?_
 rintro e W3 ⟨rfl, hb⟩
 have K3 := bsb K2 hb
 clear c2_0_0 c2_0_1 c2_1_0 c2_1_1
 clear hb K2
 obtain ⟨c3_0_0, c3_0_1⟩ := (bo1 K3).c2
 obtain ⟨z3_0_0, z3_0_1⟩ := (bo1 K3).f2
 obtain ⟨c3_1_0, c3_1_1⟩ := (bo2 K3).c2
 have XF : Hid (Bx (W3.setCells (w.heap.size + 1) 0 [vi ki 0, vi ki v]) (w.heap.size + 1) [vi ki 0, vi ki v]) := (K3.out.at (w.heap.size + 1) [vi ki 0, vi ki 0] (by simp)).setAll _ rfl
 have BF : Hid (Below w.heap.size w (W3.setCells (w.heap.size + 1) 0 [vi ki 0, vi ki v])) := below_setCells (by omega) _ _ _ K3.out.1
 have y0 := XF.out.c 0 rfl
 have y1 := XF.out.c 1 rfl
 simp only [World.setCells, Nat.zero_add] at y0 y1
 clear XF
 go_wp2
 exact bodyPost_ret (v := .tuple #[.agg #[vi ki 0, vi ki v], vi ki e]) (by simp [results, Tryz.results109, go_sem, y0, y1]) rfl ⟨rfl, BF.out⟩
theorem bg_inf (f i u : Int) (hi : i ≠ 0)
  (w : World) :
  Calls Tryz.prog 58 #[vi ki f, .agg #[vi ki i, vi ki u]] w fun r' w' => r' = zr (.tuple #[.agg #[vi ki i, vi ki u], vi ki 0]) ∧ Below w.heap.size w w' := by
 have n_i : (i != 0) = true := bne_iff_ne.2 hi
 have K0 := bsn2 w [vi ki i, vi ki u] 36 [vi ki 0, vi ki 0] 36
 go_enter Tryz.func58, Tryz.ntmps58
 go_wp2
 exact bodyPost_ret (v := .tuple #[.agg #[vi ki i, vi ki u], vi ki 0]) (by simp [results, Tryz.results58, go_sem]) rfl ⟨rfl, (by repeat' (first | assumption | exact Below.refl _ _ | exact Nat.le_refl _ | refine Below.alloc ?_ ?_ _ | (simp; done) | (simp; omega) | omega))⟩
def opTab : List Int := [1, 1000, 1000000, 60000000, 3600000000, 86400000000]
def OLens (w : World) : Prop := ∀ i, i < 6 → w.cell? ⟨0, i, none⟩ = some (vi ki (opTab.getD i 0))
theorem OLens.lt {w : World} (h : OLens w) : 0 < w.heap.size := World.block_lt_of_cell? w _ (h 0 (by decide))
theorem OLens.below {w w' : World} (h : OLens w) (hb : Below w.heap.size w w') : OLens w' := fun i hi => (hb.cell (p := ⟨0, i, none⟩) h.lt).trans (h i hi)
theorem bg_0 (u d us v e : Int) (u1 : 0 ≤ us) (u2 : us < 86400000000)
  (OF : Hid (∀ w : World, Cvl.Lens w → Calls Tryz.prog 97 #[.agg #[vi ki 0, vi ki u]] w fun r' w' => r' = zr (.tuple #[.agg #[vi ki 0, vi ki d], vi ki us, vi ki 0]) ∧ Below w.heap.size w w'))
  (SM : Hid (∀ w : World, Cvl.Lens w → Calls Tryz.prog 100 #[.agg #[vi ki 0, vi ki d], vi ki us] w fun r' w' => r' = zr (.tuple #[.agg #[vi ki 0, vi ki v], vi ki e]) ∧ Below w.heap.size w w'))
  (w : World) (hO : OLens w) (hL : Hid (∀ W : World, Below w.heap.size w W → Cvl.Lens W)) :
  Calls Tryz.prog 58 #[vi ki 0, .agg #[vi ki 0, vi ki u]] w fun r' w' => r' = zr (.tuple #[.agg #[vi ki 0, vi ki v], vi ki e]) ∧ Below w.heap.size w w' := by
 have HO : Hid (w.cell? ⟨0, 0, none⟩ = some (vi ki 1)) := hO 0 (by decide)
 have hG := hO.lt
 clear hO
 have t0 : us.tmod 1 = us % 1 := Int.tmod_eq_emod_of_nonneg u1
 have t1 : IntKind.i64.wrap (us) = us := by rw [IntKind.wrap_i64]; omega
 have K0 := bsn2 w [vi ki 0, vi ki u] 36 [vi ki 0, vi ki 0] 36
 go_enter Tryz.func58, Tryz.ntmps58
 go_wp2_with fail
 refine (OF.out _ (hL.out _ K0.out.1)).mono ?_
 rintro e W1 ⟨rfl, hb⟩
 have K1 := bsb K0 hb
 clear hb K0
 obtain ⟨c1_0_0, c1_0_1⟩ := (bo1 K1).c2
 obtain ⟨c1_1_0, c1_1_1⟩ := (bo2 K1).c2
 have Mz1 := bsn K1 [vi ki 0, vi ki d] 111
 have lt1_0 := (bo1 K1).1
 have lt1_1 := (bo2 K1).1
 go_upto_region 4 with fail
 refine bs_to Mz1 ?_
 clear c1_0_0 c1_0_1 c1_1_0 c1_1_1
 intro W2 K2
 clear Mz1 K1
 obtain ⟨c2_0_0, c2_0_1⟩ := (bo1 K2).c2
 obtain ⟨c2_1_0, c2_1_1⟩ := (bo2 K2).c2
 obtain ⟨c2_2_0, c2_2_1⟩ := (bo3 K2).c2
 go_upto_region 5 with fail
 have lq2_0 := (K2.out.at (W1.heap.size) [vi ki 0, vi ki d] (by simp)).1
 have lq2_1 := (K2.out.at (w.heap.size + 1) [vi ki 0, vi ki 0] (by simp)).1
 have lq2_2 := (K2.out.at (w.heap.size) [vi ki 0, vi ki u] (by simp)).1
 have HN : Hid (NB w [(W1.heap.size, [vi ki 0, vi ki d]), (w.heap.size, [vi ki 0, vi ki u])] W2.drew (w.heap.size + 1) [vi ki 0, vi ki 0]) := ⟨K2.out.at (w.heap.size + 1) [vi ki 0, vi ki 0] (by simp), (K2.out.2 (w.heap.size + 1, [vi ki 0, vi ki 0]) (by simp)).1, by intro x hx; simp only [List.mem_cons, List.not_mem_nil, or_false] at hx; rcases hx with rfl | rfl <;> simp only [] <;> omega⟩
 have KR : Hid (BS w [(W1.heap.size, [vi ki 0, vi ki d]), (w.heap.size, [vi ki 0, vi ki u])] W2) := K2.out.perm (by intro x hx; simp only [List.mem_cons, List.not_mem_nil, or_false] at hx ⊢; rcases hx with h | h <;> simp [h])
 clear c2_0_0 c2_0_1 c2_1_0 c2_1_1 c2_2_0 c2_2_1
 go_cut [5] (fun v0 wx => v0 = vi ki e ∧ Hid (BS w ((w.heap.size + 1, [vi ki 0, vi ki v]) :: [(W1.heap.size, [vi ki 0, vi ki d]), (w.heap.size, [vi ki 0, vi ki u])]) wx))
 case first =>
  refine wp_region_held_drew (S := BS w [(W1.heap.size, [vi ki 0, vi ki d]), (w.heap.size, [vi ki 0, vi ki u])]) (by kernel_rfl) KR.out.drew (fun hHeld => ?_)
  refine tk (v := ?_) 0 ⟨some 23, _, _, _, _, none⟩ rfl ?_ ?_
  case refine_2 => (intro w9 hSw; obtain ⟨l0_0, l0_1⟩ := (hSw.at (W1.heap.size) [vi ki 0, vi ki d] (by simp)).c2; obtain ⟨l1_0, l1_1⟩ := (hSw.at (w.heap.size) [vi ki 0, vi ki u] (by simp)).c2; have g0 := (hSw.1.cell (p := ⟨0, 0, none⟩) hG).trans HO.out; clear hSw; go_simp; try with_reducible rfl)
  simp only [za, zb, zc, zd]
  refine tks 1 ⟨some 24, _, _, _, _, none⟩ rfl ?_
  simp only [za, zb, zc, zd]
  refine tks 2 ⟨some 25, _, _, _, _, none⟩ rfl ?_
  simp only [za, zb, zc, zd]
  refine tks 3 ⟨some 26, _, _, _, _, none⟩ rfl ?_
  simp only [za, zb, zc, zd]
  refine tks 4 ⟨some 27, _, _, _, _, none⟩ rfl ?_
  simp only [za, zb, zc, zd]
  refine tk (v := ?_) 5 ⟨some 28, _, _, _, _, none⟩ rfl ?_ ?_
  case refine_2 => (intro w9 hSw; obtain ⟨l0_0, l0_1⟩ := (hSw.at (W1.heap.size) [vi ki 0, vi ki d] (by simp)).c2; obtain ⟨l1_0, l1_1⟩ := (hSw.at (w.heap.size) [vi ki 0, vi ki u] (by simp)).c2; have g0 := (hSw.1.cell (p := ⟨0, 0, none⟩) hG).trans HO.out; clear hSw; go_simp; try with_reducible rfl)
  simp only [za, zb, zc, zd]
  refine tks 6 ⟨some 29, _, _, _, _, none⟩ rfl ?_
  simp only [za, zb, zc, zd]
  refine tks 7 ⟨some 30, _, _, _, _, none⟩ rfl ?_
  simp only [za, zb, zc, zd]
  refine rd 8 ⟨some 31, _, _, _, _, none⟩ rfl (fun K hK => ?_)
  go_simp
  refine (SM.out _ (hL.out _ hHeld.1)).mono ?_
  rintro e v1 ⟨rfl, hb1⟩
  refine hK.out _ _ (hHeld.below hb1) (fun hHeld => ?_)
  have HN2 := HN.out.below hb1
  clear HN
  have HN : Hid (NB _ _ _ _ _) := HN2
  clear HN2
  clear hK K hb1
  refine tks 9 ⟨some 32, _, _, _, _, none⟩ rfl ?_
  simp only [za, zb, zc, zd]
  refine tks 10 ⟨some 33, _, _, _, _, none⟩ rfl ?_
  simp only [za, zb, zc, zd]
  refine rd 11 ⟨none, _, _, _, _, none⟩ rfl (fun K hK => ?_)
  refine (if_pos (by kernel_rfl)).mpr (wp_store_mid 36 _ _ rfl _ 0 #[vi ki 0, vi ki v] rfl rfl HN.out.1.there (by kernel_rfl) (by simp [Value.oneCell']) (hK.out _ _ (hHeld.off HN.out.2.1 HN.out.2.2 _) (fun hHeld => ?_)))
  have HN2 : Hid (BS w ((_, [vi ki 0, vi ki v]) :: [(W1.heap.size, [vi ki 0, vi ki d]), (w.heap.size, [vi ki 0, vi ki u])]) _) := ⟨hHeld.1, fun x hx => by rcases List.mem_cons.1 hx with rfl | hx; exact ⟨HN.out.2.1, HN.out.1.setAll _ rfl⟩; exact hHeld.2 x hx⟩
  clear hK K HN
  refine tks 12 ⟨some 5, _, _, _, _, none⟩ rfl ?_
  simp only [za, zb, zc, zd]
  refine wpAnyH_done (by kernel_rfl) ?_ _
  go_wp2_with fail
  go_meet
  case rel => exact ⟨rfl, HN2⟩
 case rest =>
  obtain ⟨rfl, K3⟩ := hcut
  clear K2 HN KR lq2_0 lq2_1 lq2_2
  have y0 : wc.cell? ⟨w.heap.size + 1, 0, none⟩ = some (vi ki 0) := (K3.out.at (w.heap.size + 1) [vi ki 0, vi ki v] (by simp)).c 0 rfl
  have y1 : wc.cell? ⟨w.heap.size + 1, 1, none⟩ = some (vi ki v) := (K3.out.at (w.heap.size + 1) [vi ki 0, vi ki v] (by simp)).c 1 rfl
  go_wp2
  exact bodyPost_ret (v := .tuple #[.agg #[vi ki 0, vi ki v], vi ki e]) (by simp [results, Tryz.results58, go_sem, y0, y1]) rfl ⟨rfl, K3.out.1⟩
theorem bg_1 (u d us v e : Int) (u1 : 0 ≤ us) (u2 : us < 86400000000)
  (OF : Hid (∀ w : World, Cvl.Lens w → Calls Tryz.prog 97 #[.agg #[vi ki 0, vi ki u]] w fun r' w' => r' = zr (.tuple #[.agg #[vi ki 0, vi ki d], vi ki us, vi ki 0]) ∧ Below w.heap.size w w'))
  (SM : Hid (∀ w : World, Cvl.Lens w → Calls Tryz.prog 100 #[.agg #[vi ki 0, vi ki d], vi ki (us - us % 1000)] w fun r' w' => r' = zr (.tuple #[.agg #[vi ki 0, vi ki v], vi ki e]) ∧ Below w.heap.size w w'))
  (w : World) (hO : OLens w) (hL : Hid (∀ W : World, Below w.heap.size w W → Cvl.Lens W)) :
  Calls Tryz.prog 58 #[vi ki 1, .agg #[vi ki 0, vi ki u]] w fun r' w' => r' = zr (.tuple #[.agg #[vi ki 0, vi ki v], vi ki e]) ∧ Below w.heap.size w w' := by
 have HO : Hid (w.cell? ⟨0, 1, none⟩ = some (vi ki 1000)) := hO 1 (by decide)
 have hG := hO.lt
 clear hO
 have t0 : us.tmod 1000 = us % 1000 := Int.tmod_eq_emod_of_nonneg u1
 have t1 : IntKind.i64.wrap (us - us % 1000) = us - us % 1000 := by rw [IntKind.wrap_i64]; omega
 have K0 := bsn2 w [vi ki 0, vi ki u] 36 [vi ki 0, vi ki 0] 36
 go_enter Tryz.func58, Tryz.ntmps58
 go_wp2_with fail
 refine (OF.out _ (hL.out _ K0.out.1)).mono ?_
 rintro e W1 ⟨rfl, hb⟩
 have K1 := bsb K0 hb
 clear hb K0
 obtain ⟨c1_0_0, c1_0_1⟩ := (bo1 K1).c2
 obtain ⟨c1_1_0, c1_1_1⟩ := (bo2 K1).c2
 have Mz1 := bsn K1 [vi ki 0, vi ki d] 111
 have lt1_0 := (bo1 K1).1
 have lt1_1 := (bo2 K1).1
 go_upto_region 4 with fail
 refine bs_to Mz1 ?_
 clear c1_0_0 c1_0_1 c1_1_0 c1_1_1
 intro W2 K2
 clear Mz1 K1
 obtain ⟨c2_0_0, c2_0_1⟩ := (bo1 K2).c2
 obtain ⟨c2_1_0, c2_1_1⟩ := (bo2 K2).c2
 obtain ⟨c2_2_0, c2_2_1⟩ := (bo3 K2).c2
 go_upto_region 5 with fail
 have lq2_0 := (K2.out.at (W1.heap.size) [vi ki 0, vi ki d] (by simp)).1
 have lq2_1 := (K2.out.at (w.heap.size + 1) [vi ki 0, vi ki 0] (by simp)).1
 have lq2_2 := (K2.out.at (w.heap.size) [vi ki 0, vi ki u] (by simp)).1
 have HN : Hid (NB w [(W1.heap.size, [vi ki 0, vi ki d]), (w.heap.size, [vi ki 0, vi ki u])] W2.drew (w.heap.size + 1) [vi ki 0, vi ki 0]) := ⟨K2.out.at (w.heap.size + 1) [vi ki 0, vi ki 0] (by simp), (K2.out.2 (w.heap.size + 1, [vi ki 0, vi ki 0]) (by simp)).1, by intro x hx; simp only [List.mem_cons, List.not_mem_nil, or_false] at hx; rcases hx with rfl | rfl <;> simp only [] <;> omega⟩
 have KR : Hid (BS w [(W1.heap.size, [vi ki 0, vi ki d]), (w.heap.size, [vi ki 0, vi ki u])] W2) := K2.out.perm (by intro x hx; simp only [List.mem_cons, List.not_mem_nil, or_false] at hx ⊢; rcases hx with h | h <;> simp [h])
 clear c2_0_0 c2_0_1 c2_1_0 c2_1_1 c2_2_0 c2_2_1
 go_cut [5] (fun v0 wx => v0 = vi ki e ∧ Hid (BS w ((w.heap.size + 1, [vi ki 0, vi ki v]) :: [(W1.heap.size, [vi ki 0, vi ki d]), (w.heap.size, [vi ki 0, vi ki u])]) wx))
 case first =>
  refine wp_region_held_drew (S := BS w [(W1.heap.size, [vi ki 0, vi ki d]), (w.heap.size, [vi ki 0, vi ki u])]) (by kernel_rfl) KR.out.drew (fun hHeld => ?_)
  refine tk (v := ?_) 0 ⟨some 23, _, _, _, _, none⟩ rfl ?_ ?_
  case refine_2 => (intro w9 hSw; obtain ⟨l0_0, l0_1⟩ := (hSw.at (W1.heap.size) [vi ki 0, vi ki d] (by simp)).c2; obtain ⟨l1_0, l1_1⟩ := (hSw.at (w.heap.size) [vi ki 0, vi ki u] (by simp)).c2; have g0 := (hSw.1.cell (p := ⟨0, 1, none⟩) hG).trans HO.out; clear hSw; go_simp; try with_reducible rfl)
  simp only [za, zb, zc, zd]
  refine tks 1 ⟨some 24, _, _, _, _, none⟩ rfl ?_
  simp only [za, zb, zc, zd]
  refine tks 2 ⟨some 25, _, _, _, _, none⟩ rfl ?_
  simp only [za, zb, zc, zd]
  refine tks 3 ⟨some 26, _, _, _, _, none⟩ rfl ?_
  simp only [za, zb, zc, zd]
  refine tks 4 ⟨some 27, _, _, _, _, none⟩ rfl ?_
  simp only [za, zb, zc, zd]
  refine tk (v := ?_) 5 ⟨some 28, _, _, _, _, none⟩ rfl ?_ ?_
  case refine_2 => (intro w9 hSw; obtain ⟨l0_0, l0_1⟩ := (hSw.at (W1.heap.size) [vi ki 0, vi ki d] (by simp)).c2; obtain ⟨l1_0, l1_1⟩ := (hSw.at (w.heap.size) [vi ki 0, vi ki u] (by simp)).c2; have g0 := (hSw.1.cell (p := ⟨0, 1, none⟩) hG).trans HO.out; clear hSw; go_simp; try with_reducible rfl)
  simp only [za, zb, zc, zd]
  refine tks 6 ⟨some 29, _, _, _, _, none⟩ rfl ?_
  simp only [za, zb, zc, zd]
  refine tks 7 ⟨some 30, _, _, _, _, none⟩ rfl ?_
  simp only [za, zb, zc, zd]
  refine rd 8 ⟨some 31, _, _, _, _, none⟩ rfl (fun K hK => ?_)
  go_simp
  refine (SM.out _ (hL.out _ hHeld.1)).mono ?_
  rintro e v1 ⟨rfl, hb1⟩
  refine hK.out _ _ (hHeld.below hb1) (fun hHeld => ?_)
  have HN2 := HN.out.below hb1
  clear HN
  have HN : Hid (NB _ _ _ _ _) := HN2
  clear HN2
  clear hK K hb1
  refine tks 9 ⟨some 32, _, _, _, _, none⟩ rfl ?_
  simp only [za, zb, zc, zd]
  refine tks 10 ⟨some 33, _, _, _, _, none⟩ rfl ?_
  simp only [za, zb, zc, zd]
  refine rd 11 ⟨none, _, _, _, _, none⟩ rfl (fun K hK => ?_)
  refine (if_pos (by kernel_rfl)).mpr (wp_store_mid 36 _ _ rfl _ 0 #[vi ki 0, vi ki v] rfl rfl HN.out.1.there (by kernel_rfl) (by simp [Value.oneCell']) (hK.out _ _ (hHeld.off HN.out.2.1 HN.out.2.2 _) (fun hHeld => ?_)))
  have HN2 : Hid (BS w ((_, [vi ki 0, vi ki v]) :: [(W1.heap.size, [vi ki 0, vi ki d]), (w.heap.size, [vi ki 0, vi ki u])]) _) := ⟨hHeld.1, fun x hx => by rcases List.mem_cons.1 hx with rfl | hx; exact ⟨HN.out.2.1, HN.out.1.setAll _ rfl⟩; exact hHeld.2 x hx⟩
  clear hK K HN
  refine tks 12 ⟨some 5, _, _, _, _, none⟩ rfl ?_
  simp only [za, zb, zc, zd]
  refine wpAnyH_done (by kernel_rfl) ?_ _
  go_wp2_with fail
  go_meet
  case rel => exact ⟨rfl, HN2⟩
 case rest =>
  obtain ⟨rfl, K3⟩ := hcut
  clear K2 HN KR lq2_0 lq2_1 lq2_2
  have y0 : wc.cell? ⟨w.heap.size + 1, 0, none⟩ = some (vi ki 0) := (K3.out.at (w.heap.size + 1) [vi ki 0, vi ki v] (by simp)).c 0 rfl
  have y1 : wc.cell? ⟨w.heap.size + 1, 1, none⟩ = some (vi ki v) := (K3.out.at (w.heap.size + 1) [vi ki 0, vi ki v] (by simp)).c 1 rfl
  go_wp2
  exact bodyPost_ret (v := .tuple #[.agg #[vi ki 0, vi ki v], vi ki e]) (by simp [results, Tryz.results58, go_sem, y0, y1]) rfl ⟨rfl, K3.out.1⟩
theorem bg_2 (u d us v e : Int) (u1 : 0 ≤ us) (u2 : us < 86400000000)
  (OF : Hid (∀ w : World, Cvl.Lens w → Calls Tryz.prog 97 #[.agg #[vi ki 0, vi ki u]] w fun r' w' => r' = zr (.tuple #[.agg #[vi ki 0, vi ki d], vi ki us, vi ki 0]) ∧ Below w.heap.size w w'))
  (SM : Hid (∀ w : World, Cvl.Lens w → Calls Tryz.prog 100 #[.agg #[vi ki 0, vi ki d], vi ki (us - us % 1000000)] w fun r' w' => r' = zr (.tuple #[.agg #[vi ki 0, vi ki v], vi ki e]) ∧ Below w.heap.size w w'))
  (w : World) (hO : OLens w) (hL : Hid (∀ W : World, Below w.heap.size w W → Cvl.Lens W)) :
  Calls Tryz.prog 58 #[vi ki 2, .agg #[vi ki 0, vi ki u]] w fun r' w' => r' = zr (.tuple #[.agg #[vi ki 0, vi ki v], vi ki e]) ∧ Below w.heap.size w w' := by
 have HO : Hid (w.cell? ⟨0, 2, none⟩ = some (vi ki 1000000)) := hO 2 (by decide)
 have hG := hO.lt
 clear hO
 have t0 : us.tmod 1000000 = us % 1000000 := Int.tmod_eq_emod_of_nonneg u1
 have t1 : IntKind.i64.wrap (us - us % 1000000) = us - us % 1000000 := by rw [IntKind.wrap_i64]; omega
 have K0 := bsn2 w [vi ki 0, vi ki u] 36 [vi ki 0, vi ki 0] 36
 go_enter Tryz.func58, Tryz.ntmps58
 go_wp2_with fail
 refine (OF.out _ (hL.out _ K0.out.1)).mono ?_
 rintro e W1 ⟨rfl, hb⟩
 have K1 := bsb K0 hb
 clear hb K0
 obtain ⟨c1_0_0, c1_0_1⟩ := (bo1 K1).c2
 obtain ⟨c1_1_0, c1_1_1⟩ := (bo2 K1).c2
 have Mz1 := bsn K1 [vi ki 0, vi ki d] 111
 have lt1_0 := (bo1 K1).1
 have lt1_1 := (bo2 K1).1
 go_upto_region 4 with fail
 refine bs_to Mz1 ?_
 clear c1_0_0 c1_0_1 c1_1_0 c1_1_1
 intro W2 K2
 clear Mz1 K1
 obtain ⟨c2_0_0, c2_0_1⟩ := (bo1 K2).c2
 obtain ⟨c2_1_0, c2_1_1⟩ := (bo2 K2).c2
 obtain ⟨c2_2_0, c2_2_1⟩ := (bo3 K2).c2
 go_upto_region 5 with fail
 have lq2_0 := (K2.out.at (W1.heap.size) [vi ki 0, vi ki d] (by simp)).1
 have lq2_1 := (K2.out.at (w.heap.size + 1) [vi ki 0, vi ki 0] (by simp)).1
 have lq2_2 := (K2.out.at (w.heap.size) [vi ki 0, vi ki u] (by simp)).1
 have HN : Hid (NB w [(W1.heap.size, [vi ki 0, vi ki d]), (w.heap.size, [vi ki 0, vi ki u])] W2.drew (w.heap.size + 1) [vi ki 0, vi ki 0]) := ⟨K2.out.at (w.heap.size + 1) [vi ki 0, vi ki 0] (by simp), (K2.out.2 (w.heap.size + 1, [vi ki 0, vi ki 0]) (by simp)).1, by intro x hx; simp only [List.mem_cons, List.not_mem_nil, or_false] at hx; rcases hx with rfl | rfl <;> simp only [] <;> omega⟩
 have KR : Hid (BS w [(W1.heap.size, [vi ki 0, vi ki d]), (w.heap.size, [vi ki 0, vi ki u])] W2) := K2.out.perm (by intro x hx; simp only [List.mem_cons, List.not_mem_nil, or_false] at hx ⊢; rcases hx with h | h <;> simp [h])
 clear c2_0_0 c2_0_1 c2_1_0 c2_1_1 c2_2_0 c2_2_1
 go_cut [5] (fun v0 wx => v0 = vi ki e ∧ Hid (BS w ((w.heap.size + 1, [vi ki 0, vi ki v]) :: [(W1.heap.size, [vi ki 0, vi ki d]), (w.heap.size, [vi ki 0, vi ki u])]) wx))
 case first =>
  refine wp_region_held_drew (S := BS w [(W1.heap.size, [vi ki 0, vi ki d]), (w.heap.size, [vi ki 0, vi ki u])]) (by kernel_rfl) KR.out.drew (fun hHeld => ?_)
  refine tk (v := ?_) 0 ⟨some 23, _, _, _, _, none⟩ rfl ?_ ?_
  case refine_2 => (intro w9 hSw; obtain ⟨l0_0, l0_1⟩ := (hSw.at (W1.heap.size) [vi ki 0, vi ki d] (by simp)).c2; obtain ⟨l1_0, l1_1⟩ := (hSw.at (w.heap.size) [vi ki 0, vi ki u] (by simp)).c2; have g0 := (hSw.1.cell (p := ⟨0, 2, none⟩) hG).trans HO.out; clear hSw; go_simp; try with_reducible rfl)
  simp only [za, zb, zc, zd]
  refine tks 1 ⟨some 24, _, _, _, _, none⟩ rfl ?_
  simp only [za, zb, zc, zd]
  refine tks 2 ⟨some 25, _, _, _, _, none⟩ rfl ?_
  simp only [za, zb, zc, zd]
  refine tks 3 ⟨some 26, _, _, _, _, none⟩ rfl ?_
  simp only [za, zb, zc, zd]
  refine tks 4 ⟨some 27, _, _, _, _, none⟩ rfl ?_
  simp only [za, zb, zc, zd]
  refine tk (v := ?_) 5 ⟨some 28, _, _, _, _, none⟩ rfl ?_ ?_
  case refine_2 => (intro w9 hSw; obtain ⟨l0_0, l0_1⟩ := (hSw.at (W1.heap.size) [vi ki 0, vi ki d] (by simp)).c2; obtain ⟨l1_0, l1_1⟩ := (hSw.at (w.heap.size) [vi ki 0, vi ki u] (by simp)).c2; have g0 := (hSw.1.cell (p := ⟨0, 2, none⟩) hG).trans HO.out; clear hSw; go_simp; try with_reducible rfl)
  simp only [za, zb, zc, zd]
  refine tks 6 ⟨some 29, _, _, _, _, none⟩ rfl ?_
  simp only [za, zb, zc, zd]
  refine tks 7 ⟨some 30, _, _, _, _, none⟩ rfl ?_
  simp only [za, zb, zc, zd]
  refine rd 8 ⟨some 31, _, _, _, _, none⟩ rfl (fun K hK => ?_)
  go_simp
  refine (SM.out _ (hL.out _ hHeld.1)).mono ?_
  rintro e v1 ⟨rfl, hb1⟩
  refine hK.out _ _ (hHeld.below hb1) (fun hHeld => ?_)
  have HN2 := HN.out.below hb1
  clear HN
  have HN : Hid (NB _ _ _ _ _) := HN2
  clear HN2
  clear hK K hb1
  refine tks 9 ⟨some 32, _, _, _, _, none⟩ rfl ?_
  simp only [za, zb, zc, zd]
  refine tks 10 ⟨some 33, _, _, _, _, none⟩ rfl ?_
  simp only [za, zb, zc, zd]
  refine rd 11 ⟨none, _, _, _, _, none⟩ rfl (fun K hK => ?_)
  refine (if_pos (by kernel_rfl)).mpr (wp_store_mid 36 _ _ rfl _ 0 #[vi ki 0, vi ki v] rfl rfl HN.out.1.there (by kernel_rfl) (by simp [Value.oneCell']) (hK.out _ _ (hHeld.off HN.out.2.1 HN.out.2.2 _) (fun hHeld => ?_)))
  have HN2 : Hid (BS w ((_, [vi ki 0, vi ki v]) :: [(W1.heap.size, [vi ki 0, vi ki d]), (w.heap.size, [vi ki 0, vi ki u])]) _) := ⟨hHeld.1, fun x hx => by rcases List.mem_cons.1 hx with rfl | hx; exact ⟨HN.out.2.1, HN.out.1.setAll _ rfl⟩; exact hHeld.2 x hx⟩
  clear hK K HN
  refine tks 12 ⟨some 5, _, _, _, _, none⟩ rfl ?_
  simp only [za, zb, zc, zd]
  refine wpAnyH_done (by kernel_rfl) ?_ _
  go_wp2_with fail
  go_meet
  case rel => exact ⟨rfl, HN2⟩
 case rest =>
  obtain ⟨rfl, K3⟩ := hcut
  clear K2 HN KR lq2_0 lq2_1 lq2_2
  have y0 : wc.cell? ⟨w.heap.size + 1, 0, none⟩ = some (vi ki 0) := (K3.out.at (w.heap.size + 1) [vi ki 0, vi ki v] (by simp)).c 0 rfl
  have y1 : wc.cell? ⟨w.heap.size + 1, 1, none⟩ = some (vi ki v) := (K3.out.at (w.heap.size + 1) [vi ki 0, vi ki v] (by simp)).c 1 rfl
  go_wp2
  exact bodyPost_ret (v := .tuple #[.agg #[vi ki 0, vi ki v], vi ki e]) (by simp [results, Tryz.results58, go_sem, y0, y1]) rfl ⟨rfl, K3.out.1⟩
theorem bg_3 (u d us v e : Int) (u1 : 0 ≤ us) (u2 : us < 86400000000)
  (OF : Hid (∀ w : World, Cvl.Lens w → Calls Tryz.prog 97 #[.agg #[vi ki 0, vi ki u]] w fun r' w' => r' = zr (.tuple #[.agg #[vi ki 0, vi ki d], vi ki us, vi ki 0]) ∧ Below w.heap.size w w'))
  (SM : Hid (∀ w : World, Cvl.Lens w → Calls Tryz.prog 100 #[.agg #[vi ki 0, vi ki d], vi ki (us - us % 60000000)] w fun r' w' => r' = zr (.tuple #[.agg #[vi ki 0, vi ki v], vi ki e]) ∧ Below w.heap.size w w'))
  (w : World) (hO : OLens w) (hL : Hid (∀ W : World, Below w.heap.size w W → Cvl.Lens W)) :
  Calls Tryz.prog 58 #[vi ki 3, .agg #[vi ki 0, vi ki u]] w fun r' w' => r' = zr (.tuple #[.agg #[vi ki 0, vi ki v], vi ki e]) ∧ Below w.heap.size w w' := by
 have HO : Hid (w.cell? ⟨0, 3, none⟩ = some (vi ki 60000000)) := hO 3 (by decide)
 have hG := hO.lt
 clear hO
 have t0 : us.tmod 60000000 = us % 60000000 := Int.tmod_eq_emod_of_nonneg u1
 have t1 : IntKind.i64.wrap (us - us % 60000000) = us - us % 60000000 := by rw [IntKind.wrap_i64]; omega
 have K0 := bsn2 w [vi ki 0, vi ki u] 36 [vi ki 0, vi ki 0] 36
 go_enter Tryz.func58, Tryz.ntmps58
 go_wp2_with fail
 refine (OF.out _ (hL.out _ K0.out.1)).mono ?_
 rintro e W1 ⟨rfl, hb⟩
 have K1 := bsb K0 hb
 clear hb K0
 obtain ⟨c1_0_0, c1_0_1⟩ := (bo1 K1).c2
 obtain ⟨c1_1_0, c1_1_1⟩ := (bo2 K1).c2
 have Mz1 := bsn K1 [vi ki 0, vi ki d] 111
 have lt1_0 := (bo1 K1).1
 have lt1_1 := (bo2 K1).1
 go_upto_region 4 with fail
 refine bs_to Mz1 ?_
 clear c1_0_0 c1_0_1 c1_1_0 c1_1_1
 intro W2 K2
 clear Mz1 K1
 obtain ⟨c2_0_0, c2_0_1⟩ := (bo1 K2).c2
 obtain ⟨c2_1_0, c2_1_1⟩ := (bo2 K2).c2
 obtain ⟨c2_2_0, c2_2_1⟩ := (bo3 K2).c2
 go_upto_region 5 with fail
 have lq2_0 := (K2.out.at (W1.heap.size) [vi ki 0, vi ki d] (by simp)).1
 have lq2_1 := (K2.out.at (w.heap.size + 1) [vi ki 0, vi ki 0] (by simp)).1
 have lq2_2 := (K2.out.at (w.heap.size) [vi ki 0, vi ki u] (by simp)).1
 have HN : Hid (NB w [(W1.heap.size, [vi ki 0, vi ki d]), (w.heap.size, [vi ki 0, vi ki u])] W2.drew (w.heap.size + 1) [vi ki 0, vi ki 0]) := ⟨K2.out.at (w.heap.size + 1) [vi ki 0, vi ki 0] (by simp), (K2.out.2 (w.heap.size + 1, [vi ki 0, vi ki 0]) (by simp)).1, by intro x hx; simp only [List.mem_cons, List.not_mem_nil, or_false] at hx; rcases hx with rfl | rfl <;> simp only [] <;> omega⟩
 have KR : Hid (BS w [(W1.heap.size, [vi ki 0, vi ki d]), (w.heap.size, [vi ki 0, vi ki u])] W2) := K2.out.perm (by intro x hx; simp only [List.mem_cons, List.not_mem_nil, or_false] at hx ⊢; rcases hx with h | h <;> simp [h])
 clear c2_0_0 c2_0_1 c2_1_0 c2_1_1 c2_2_0 c2_2_1
 go_cut [5] (fun v0 wx => v0 = vi ki e ∧ Hid (BS w ((w.heap.size + 1, [vi ki 0, vi ki v]) :: [(W1.heap.size, [vi ki 0, vi ki d]), (w.heap.size, [vi ki 0, vi ki u])]) wx))
 case first =>
  refine wp_region_held_drew (S := BS w [(W1.heap.size, [vi ki 0, vi ki d]), (w.heap.size, [vi ki 0, vi ki u])]) (by kernel_rfl) KR.out.drew (fun hHeld => ?_)
  refine tk (v := ?_) 0 ⟨some 23, _, _, _, _, none⟩ rfl ?_ ?_
  case refine_2 => (intro w9 hSw; obtain ⟨l0_0, l0_1⟩ := (hSw.at (W1.heap.size) [vi ki 0, vi ki d] (by simp)).c2; obtain ⟨l1_0, l1_1⟩ := (hSw.at (w.heap.size) [vi ki 0, vi ki u] (by simp)).c2; have g0 := (hSw.1.cell (p := ⟨0, 3, none⟩) hG).trans HO.out; clear hSw; go_simp; try with_reducible rfl)
  simp only [za, zb, zc, zd]
  refine tks 1 ⟨some 24, _, _, _, _, none⟩ rfl ?_
  simp only [za, zb, zc, zd]
  refine tks 2 ⟨some 25, _, _, _, _, none⟩ rfl ?_
  simp only [za, zb, zc, zd]
  refine tks 3 ⟨some 26, _, _, _, _, none⟩ rfl ?_
  simp only [za, zb, zc, zd]
  refine tks 4 ⟨some 27, _, _, _, _, none⟩ rfl ?_
  simp only [za, zb, zc, zd]
  refine tk (v := ?_) 5 ⟨some 28, _, _, _, _, none⟩ rfl ?_ ?_
  case refine_2 => (intro w9 hSw; obtain ⟨l0_0, l0_1⟩ := (hSw.at (W1.heap.size) [vi ki 0, vi ki d] (by simp)).c2; obtain ⟨l1_0, l1_1⟩ := (hSw.at (w.heap.size) [vi ki 0, vi ki u] (by simp)).c2; have g0 := (hSw.1.cell (p := ⟨0, 3, none⟩) hG).trans HO.out; clear hSw; go_simp; try with_reducible rfl)
  simp only [za, zb, zc, zd]
  refine tks 6 ⟨some 29, _, _, _, _, none⟩ rfl ?_
  simp only [za, zb, zc, zd]
  refine tks 7 ⟨some 30, _, _, _, _, none⟩ rfl ?_
  simp only [za, zb, zc, zd]
  refine rd 8 ⟨some 31, _, _, _, _, none⟩ rfl (fun K hK => ?_)
  go_simp
  refine (SM.out _ (hL.out _ hHeld.1)).mono ?_
  rintro e v1 ⟨rfl, hb1⟩
  refine hK.out _ _ (hHeld.below hb1) (fun hHeld => ?_)
  have HN2 := HN.out.below hb1
  clear HN
  have HN : Hid (NB _ _ _ _ _) := HN2
  clear HN2
  clear hK K hb1
  refine tks 9 ⟨some 32, _, _, _, _, none⟩ rfl ?_
  simp only [za, zb, zc, zd]
  refine tks 10 ⟨some 33, _, _, _, _, none⟩ rfl ?_
  simp only [za, zb, zc, zd]
  refine rd 11 ⟨none, _, _, _, _, none⟩ rfl (fun K hK => ?_)
  refine (if_pos (by kernel_rfl)).mpr (wp_store_mid 36 _ _ rfl _ 0 #[vi ki 0, vi ki v] rfl rfl HN.out.1.there (by kernel_rfl) (by simp [Value.oneCell']) (hK.out _ _ (hHeld.off HN.out.2.1 HN.out.2.2 _) (fun hHeld => ?_)))
  have HN2 : Hid (BS w ((_, [vi ki 0, vi ki v]) :: [(W1.heap.size, [vi ki 0, vi ki d]), (w.heap.size, [vi ki 0, vi ki u])]) _) := ⟨hHeld.1, fun x hx => by rcases List.mem_cons.1 hx with rfl | hx; exact ⟨HN.out.2.1, HN.out.1.setAll _ rfl⟩; exact hHeld.2 x hx⟩
  clear hK K HN
  refine tks 12 ⟨some 5, _, _, _, _, none⟩ rfl ?_
  simp only [za, zb, zc, zd]
  refine wpAnyH_done (by kernel_rfl) ?_ _
  go_wp2_with fail
  go_meet
  case rel => exact ⟨rfl, HN2⟩
 case rest =>
  obtain ⟨rfl, K3⟩ := hcut
  clear K2 HN KR lq2_0 lq2_1 lq2_2
  have y0 : wc.cell? ⟨w.heap.size + 1, 0, none⟩ = some (vi ki 0) := (K3.out.at (w.heap.size + 1) [vi ki 0, vi ki v] (by simp)).c 0 rfl
  have y1 : wc.cell? ⟨w.heap.size + 1, 1, none⟩ = some (vi ki v) := (K3.out.at (w.heap.size + 1) [vi ki 0, vi ki v] (by simp)).c 1 rfl
  go_wp2
  exact bodyPost_ret (v := .tuple #[.agg #[vi ki 0, vi ki v], vi ki e]) (by simp [results, Tryz.results58, go_sem, y0, y1]) rfl ⟨rfl, K3.out.1⟩
theorem bg_4 (u d us v e : Int) (u1 : 0 ≤ us) (u2 : us < 86400000000)
  (OF : Hid (∀ w : World, Cvl.Lens w → Calls Tryz.prog 97 #[.agg #[vi ki 0, vi ki u]] w fun r' w' => r' = zr (.tuple #[.agg #[vi ki 0, vi ki d], vi ki us, vi ki 0]) ∧ Below w.heap.size w w'))
  (SM : Hid (∀ w : World, Cvl.Lens w → Calls Tryz.prog 100 #[.agg #[vi ki 0, vi ki d], vi ki (us - us % 3600000000)] w fun r' w' => r' = zr (.tuple #[.agg #[vi ki 0, vi ki v], vi ki e]) ∧ Below w.heap.size w w'))
  (w : World) (hO : OLens w) (hL : Hid (∀ W : World, Below w.heap.size w W → Cvl.Lens W)) :
  Calls Tryz.prog 58 #[vi ki 4, .agg #[vi ki 0, vi ki u]] w fun r' w' => r' = zr (.tuple #[.agg #[vi ki 0, vi ki v], vi ki e]) ∧ Below w.heap.size w w' := by
 have HO : Hid (w.cell? ⟨0, 4, none⟩ = some (vi ki 3600000000)) := hO 4 (by decide)
 have hG := hO.lt
 clear hO
 have t0 : us.tmod 3600000000 = us % 3600000000 := Int.tmod_eq_emod_of_nonneg u1
 have t1 : IntKind.i64.wrap (us - us % 3600000000) = us - us % 3600000000 := by rw [IntKind.wrap_i64]; omega
 have K0 := bsn2 w [vi ki 0, vi ki u] 36 [vi ki 0, vi ki 0] 36
 go_enter Tryz.func58, Tryz.ntmps58
 go_wp2_with fail
 refine (OF.out _ (hL.out _ K0.out.1)).mono ?_
 rintro e W1 ⟨rfl, hb⟩
 have K1 := bsb K0 hb
 clear hb K0
 obtain ⟨c1_0_0, c1_0_1⟩ := (bo1 K1).c2
 obtain ⟨c1_1_0, c1_1_1⟩ := (bo2 K1).c2
 have Mz1 := bsn K1 [vi ki 0, vi ki d] 111
 have lt1_0 := (bo1 K1).1
 have lt1_1 := (bo2 K1).1
 go_upto_region 4 with fail
 refine bs_to Mz1 ?_
 clear c1_0_0 c1_0_1 c1_1_0 c1_1_1
 intro W2 K2
 clear Mz1 K1
 obtain ⟨c2_0_0, c2_0_1⟩ := (bo1 K2).c2
 obtain ⟨c2_1_0, c2_1_1⟩ := (bo2 K2).c2
 obtain ⟨c2_2_0, c2_2_1⟩ := (bo3 K2).c2
 go_upto_region 5 with fail
 have lq2_0 := (K2.out.at (W1.heap.size) [vi ki 0, vi ki d] (by simp)).1
 have lq2_1 := (K2.out.at (w.heap.size + 1) [vi ki 0, vi ki 0] (by simp)).1
 have lq2_2 := (K2.out.at (w.heap.size) [vi ki 0, vi ki u] (by simp)).1
 have HN : Hid (NB w [(W1.heap.size, [vi ki 0, vi ki d]), (w.heap.size, [vi ki 0, vi ki u])] W2.drew (w.heap.size + 1) [vi ki 0, vi ki 0]) := ⟨K2.out.at (w.heap.size + 1) [vi ki 0, vi ki 0] (by simp), (K2.out.2 (w.heap.size + 1, [vi ki 0, vi ki 0]) (by simp)).1, by intro x hx; simp only [List.mem_cons, List.not_mem_nil, or_false] at hx; rcases hx with rfl | rfl <;> simp only [] <;> omega⟩
 have KR : Hid (BS w [(W1.heap.size, [vi ki 0, vi ki d]), (w.heap.size, [vi ki 0, vi ki u])] W2) := K2.out.perm (by intro x hx; simp only [List.mem_cons, List.not_mem_nil, or_false] at hx ⊢; rcases hx with h | h <;> simp [h])
 clear c2_0_0 c2_0_1 c2_1_0 c2_1_1 c2_2_0 c2_2_1
 go_cut [5] (fun v0 wx => v0 = vi ki e ∧ Hid (BS w ((w.heap.size + 1, [vi ki 0, vi ki v]) :: [(W1.heap.size, [vi ki 0, vi ki d]), (w.heap.size, [vi ki 0, vi ki u])]) wx))
 case first =>
  refine wp_region_held_drew (S := BS w [(W1.heap.size, [vi ki 0, vi ki d]), (w.heap.size, [vi ki 0, vi ki u])]) (by kernel_rfl) KR.out.drew (fun hHeld => ?_)
  refine tk (v := ?_) 0 ⟨some 23, _, _, _, _, none⟩ rfl ?_ ?_
  case refine_2 => (intro w9 hSw; obtain ⟨l0_0, l0_1⟩ := (hSw.at (W1.heap.size) [vi ki 0, vi ki d] (by simp)).c2; obtain ⟨l1_0, l1_1⟩ := (hSw.at (w.heap.size) [vi ki 0, vi ki u] (by simp)).c2; have g0 := (hSw.1.cell (p := ⟨0, 4, none⟩) hG).trans HO.out; clear hSw; go_simp; try with_reducible rfl)
  simp only [za, zb, zc, zd]
  refine tks 1 ⟨some 24, _, _, _, _, none⟩ rfl ?_
  simp only [za, zb, zc, zd]
  refine tks 2 ⟨some 25, _, _, _, _, none⟩ rfl ?_
  simp only [za, zb, zc, zd]
  refine tks 3 ⟨some 26, _, _, _, _, none⟩ rfl ?_
  simp only [za, zb, zc, zd]
  refine tks 4 ⟨some 27, _, _, _, _, none⟩ rfl ?_
  simp only [za, zb, zc, zd]
  refine tk (v := ?_) 5 ⟨some 28, _, _, _, _, none⟩ rfl ?_ ?_
  case refine_2 => (intro w9 hSw; obtain ⟨l0_0, l0_1⟩ := (hSw.at (W1.heap.size) [vi ki 0, vi ki d] (by simp)).c2; obtain ⟨l1_0, l1_1⟩ := (hSw.at (w.heap.size) [vi ki 0, vi ki u] (by simp)).c2; have g0 := (hSw.1.cell (p := ⟨0, 4, none⟩) hG).trans HO.out; clear hSw; go_simp; try with_reducible rfl)
  simp only [za, zb, zc, zd]
  refine tks 6 ⟨some 29, _, _, _, _, none⟩ rfl ?_
  simp only [za, zb, zc, zd]
  refine tks 7 ⟨some 30, _, _, _, _, none⟩ rfl ?_
  simp only [za, zb, zc, zd]
  refine rd 8 ⟨some 31, _, _, _, _, none⟩ rfl (fun K hK => ?_)
  go_simp
  refine (SM.out _ (hL.out _ hHeld.1)).mono ?_
  rintro e v1 ⟨rfl, hb1⟩
  refine hK.out _ _ (hHeld.below hb1) (fun hHeld => ?_)
  have HN2 := HN.out.below hb1
  clear HN
  have HN : Hid (NB _ _ _ _ _) := HN2
  clear HN2
  clear hK K hb1
  refine tks 9 ⟨some 32, _, _, _, _, none⟩ rfl ?_
  simp only [za, zb, zc, zd]
  refine tks 10 ⟨some 33, _, _, _, _, none⟩ rfl ?_
  simp only [za, zb, zc, zd]
  refine rd 11 ⟨none, _, _, _, _, none⟩ rfl (fun K hK => ?_)
  refine (if_pos (by kernel_rfl)).mpr (wp_store_mid 36 _ _ rfl _ 0 #[vi ki 0, vi ki v] rfl rfl HN.out.1.there (by kernel_rfl) (by simp [Value.oneCell']) (hK.out _ _ (hHeld.off HN.out.2.1 HN.out.2.2 _) (fun hHeld => ?_)))
  have HN2 : Hid (BS w ((_, [vi ki 0, vi ki v]) :: [(W1.heap.size, [vi ki 0, vi ki d]), (w.heap.size, [vi ki 0, vi ki u])]) _) := ⟨hHeld.1, fun x hx => by rcases List.mem_cons.1 hx with rfl | hx; exact ⟨HN.out.2.1, HN.out.1.setAll _ rfl⟩; exact hHeld.2 x hx⟩
  clear hK K HN
  refine tks 12 ⟨some 5, _, _, _, _, none⟩ rfl ?_
  simp only [za, zb, zc, zd]
  refine wpAnyH_done (by kernel_rfl) ?_ _
  go_wp2_with fail
  go_meet
  case rel => exact ⟨rfl, HN2⟩
 case rest =>
  obtain ⟨rfl, K3⟩ := hcut
  clear K2 HN KR lq2_0 lq2_1 lq2_2
  have y0 : wc.cell? ⟨w.heap.size + 1, 0, none⟩ = some (vi ki 0) := (K3.out.at (w.heap.size + 1) [vi ki 0, vi ki v] (by simp)).c 0 rfl
  have y1 : wc.cell? ⟨w.heap.size + 1, 1, none⟩ = some (vi ki v) := (K3.out.at (w.heap.size + 1) [vi ki 0, vi ki v] (by simp)).c 1 rfl
  go_wp2
  exact bodyPost_ret (v := .tuple #[.agg #[vi ki 0, vi ki v], vi ki e]) (by simp [results, Tryz.results58, go_sem, y0, y1]) rfl ⟨rfl, K3.out.1⟩
theorem bg_5 (u d us v e : Int) (u1 : 0 ≤ us) (u2 : us < 86400000000)
  (OF : Hid (∀ w : World, Cvl.Lens w → Calls Tryz.prog 97 #[.agg #[vi ki 0, vi ki u]] w fun r' w' => r' = zr (.tuple #[.agg #[vi ki 0, vi ki d], vi ki us, vi ki 0]) ∧ Below w.heap.size w w'))
  (SM : Hid (∀ w : World, Cvl.Lens w → Calls Tryz.prog 100 #[.agg #[vi ki 0, vi ki d], vi ki (us - us % 86400000000)] w fun r' w' => r' = zr (.tuple #[.agg #[vi ki 0, vi ki v], vi ki e]) ∧ Below w.heap.size w w'))
  (w : World) (hO : OLens w) (hL : Hid (∀ W : World, Below w.heap.size w W → Cvl.Lens W)) :
  Calls Tryz.prog 58 #[vi ki 5, .agg #[vi ki 0, vi ki u]] w fun r' w' => r' = zr (.tuple #[.agg #[vi ki 0, vi ki v], vi ki e]) ∧ Below w.heap.size w w' := by
 have HO : Hid (w.cell? ⟨0, 5, none⟩ = some (vi ki 86400000000)) := hO 5 (by decide)
 have hG := hO.lt
 clear hO
 have t0 : us.tmod 86400000000 = us % 86400000000 := Int.tmod_eq_emod_of_nonneg u1
 have t1 : IntKind.i64.wrap (us - us % 86400000000) = us - us % 86400000000 := by rw [IntKind.wrap_i64]; omega
 have K0 := bsn2 w [vi ki 0, vi ki u] 36 [vi ki 0, vi ki 0] 36
 go_enter Tryz.func58, Tryz.ntmps58
 go_wp2_with fail
 refine (OF.out _ (hL.out _ K0.out.1)).mono ?_
 rintro e W1 ⟨rfl, hb⟩
 have K1 := bsb K0 hb
 clear hb K0
 obtain ⟨c1_0_0, c1_0_1⟩ := (bo1 K1).c2
 obtain ⟨c1_1_0, c1_1_1⟩ := (bo2 K1).c2
 have Mz1 := bsn K1 [vi ki 0, vi ki d] 111
 have lt1_0 := (bo1 K1).1
 have lt1_1 := (bo2 K1).1
 go_upto_region 4 with fail
 refine bs_to Mz1 ?_
 clear c1_0_0 c1_0_1 c1_1_0 c1_1_1
 intro W2 K2
 clear Mz1 K1
 obtain ⟨c2_0_0, c2_0_1⟩ := (bo1 K2).c2
 obtain ⟨c2_1_0, c2_1_1⟩ := (bo2 K2).c2
 obtain ⟨c2_2_0, c2_2_1⟩ := (bo3 K2).c2
 go_upto_region 5 with fail
 have lq2_0 := (K2.out.at (W1.heap.size) [vi ki 0, vi ki d] (by simp)).1
 have lq2_1 := (K2.out.at (w.heap.size + 1) [vi ki 0, vi ki 0] (by simp)).1
 have lq2_2 := (K2.out.at (w.heap.size) [vi ki 0, vi ki u] (by simp)).1
 have HN : Hid (NB w [(W1.heap.size, [vi ki 0, vi ki d]), (w.heap.size, [vi ki 0, vi ki u])] W2.drew (w.heap.size + 1) [vi ki 0, vi ki 0]) := ⟨K2.out.at (w.heap.size + 1) [vi ki 0, vi ki 0] (by simp), (K2.out.2 (w.heap.size + 1, [vi ki 0, vi ki 0]) (by simp)).1, by intro x hx; simp only [List.mem_cons, List.not_mem_nil, or_false] at hx; rcases hx with rfl | rfl <;> simp only [] <;> omega⟩
 have KR : Hid (BS w [(W1.heap.size, [vi ki 0, vi ki d]), (w.heap.size, [vi ki 0, vi ki u])] W2) := K2.out.perm (by intro x hx; simp only [List.mem_cons, List.not_mem_nil, or_false] at hx ⊢; rcases hx with h | h <;> simp [h])
 clear c2_0_0 c2_0_1 c2_1_0 c2_1_1 c2_2_0 c2_2_1
 go_cut [5] (fun v0 wx => v0 = vi ki e ∧ Hid (BS w ((w.heap.size + 1, [vi ki 0, vi ki v]) :: [(W1.heap.size, [vi ki 0, vi ki d]), (w.heap.size, [vi ki 0, vi ki u])]) wx))
 case first =>
  refine wp_region_held_drew (S := BS w [(W1.heap.size, [vi ki 0, vi ki d]), (w.heap.size, [vi ki 0, vi ki u])]) (by kernel_rfl) KR.out.drew (fun hHeld => ?_)
  refine tk (v := ?_) 0 ⟨some 23, _, _, _, _, none⟩ rfl ?_ ?_
  case refine_2 => (intro w9 hSw; obtain ⟨l0_0, l0_1⟩ := (hSw.at (W1.heap.size) [vi ki 0, vi ki d] (by simp)).c2; obtain ⟨l1_0, l1_1⟩ := (hSw.at (w.heap.size) [vi ki 0, vi ki u] (by simp)).c2; have g0 := (hSw.1.cell (p := ⟨0, 5, none⟩) hG).trans HO.out; clear hSw; go_simp; try with_reducible rfl)
  simp only [za, zb, zc, zd]
  refine tks 1 ⟨some 24, _, _, _, _, none⟩ rfl ?_
  simp only [za, zb, zc, zd]
  refine tks 2 ⟨some 25, _, _, _, _, none⟩ rfl ?_
  simp only [za, zb, zc, zd]
  refine tks 3 ⟨some 26, _, _, _, _, none⟩ rfl ?_
  simp only [za, zb, zc, zd]
  refine tks 4 ⟨some 27, _, _, _, _, none⟩ rfl ?_
  simp only [za, zb, zc, zd]
  refine tk (v := ?_) 5 ⟨some 28, _, _, _, _, none⟩ rfl ?_ ?_
  case refine_2 => (intro w9 hSw; obtain ⟨l0_0, l0_1⟩ := (hSw.at (W1.heap.size) [vi ki 0, vi ki d] (by simp)).c2; obtain ⟨l1_0, l1_1⟩ := (hSw.at (w.heap.size) [vi ki 0, vi ki u] (by simp)).c2; have g0 := (hSw.1.cell (p := ⟨0, 5, none⟩) hG).trans HO.out; clear hSw; go_simp; try with_reducible rfl)
  simp only [za, zb, zc, zd]
  refine tks 6 ⟨some 29, _, _, _, _, none⟩ rfl ?_
  simp only [za, zb, zc, zd]
  refine tks 7 ⟨some 30, _, _, _, _, none⟩ rfl ?_
  simp only [za, zb, zc, zd]
  refine rd 8 ⟨some 31, _, _, _, _, none⟩ rfl (fun K hK => ?_)
  go_simp
  refine (SM.out _ (hL.out _ hHeld.1)).mono ?_
  rintro e v1 ⟨rfl, hb1⟩
  refine hK.out _ _ (hHeld.below hb1) (fun hHeld => ?_)
  have HN2 := HN.out.below hb1
  clear HN
  have HN : Hid (NB _ _ _ _ _) := HN2
  clear HN2
  clear hK K hb1
  refine tks 9 ⟨some 32, _, _, _, _, none⟩ rfl ?_
  simp only [za, zb, zc, zd]
  refine tks 10 ⟨some 33, _, _, _, _, none⟩ rfl ?_
  simp only [za, zb, zc, zd]
  refine rd 11 ⟨none, _, _, _, _, none⟩ rfl (fun K hK => ?_)
  refine (if_pos (by kernel_rfl)).mpr (wp_store_mid 36 _ _ rfl _ 0 #[vi ki 0, vi ki v] rfl rfl HN.out.1.there (by kernel_rfl) (by simp [Value.oneCell']) (hK.out _ _ (hHeld.off HN.out.2.1 HN.out.2.2 _) (fun hHeld => ?_)))
  have HN2 : Hid (BS w ((_, [vi ki 0, vi ki v]) :: [(W1.heap.size, [vi ki 0, vi ki d]), (w.heap.size, [vi ki 0, vi ki u])]) _) := ⟨hHeld.1, fun x hx => by rcases List.mem_cons.1 hx with rfl | hx; exact ⟨HN.out.2.1, HN.out.1.setAll _ rfl⟩; exact hHeld.2 x hx⟩
  clear hK K HN
  refine tks 12 ⟨some 5, _, _, _, _, none⟩ rfl ?_
  simp only [za, zb, zc, zd]
  refine wpAnyH_done (by kernel_rfl) ?_ _
  go_wp2_with fail
  go_meet
  case rel => exact ⟨rfl, HN2⟩
 case rest =>
  obtain ⟨rfl, K3⟩ := hcut
  clear K2 HN KR lq2_0 lq2_1 lq2_2
  have y0 : wc.cell? ⟨w.heap.size + 1, 0, none⟩ = some (vi ki 0) := (K3.out.at (w.heap.size + 1) [vi ki 0, vi ki v] (by simp)).c 0 rfl
  have y1 : wc.cell? ⟨w.heap.size + 1, 1, none⟩ = some (vi ki v) := (K3.out.at (w.heap.size + 1) [vi ki 0, vi ki v] (by simp)).c 1 rfl
  go_wp2
  exact bodyPost_ret (v := .tuple #[.agg #[vi ki 0, vi ki v], vi ki e]) (by simp [results, Tryz.results58, go_sem, y0, y1]) rfl ⟨rfl, K3.out.1⟩
theorem bg_6e (u d us x e : Int) (he : e ≠ 0)
  (OF : Hid (∀ w : World, Cvl.Lens w → Calls Tryz.prog 97 #[.agg #[vi ki 0, vi ki u]] w fun r' w' => r' = zr (.tuple #[.agg #[vi ki 0, vi ki d], vi ki us, vi ki 0]) ∧ Below w.heap.size w w'))
  (FD : Hid (∀ w : World, Cvl.Lens w → Calls Tryz.prog 109 #[vi ki 6, .agg #[vi ki 0, vi ki d]] w fun r' w' => r' = zr (.tuple #[.agg #[vi ki 0, vi ki x], vi ki e]) ∧ Below w.heap.size w w'))
  (w : World) (hL : Hid (∀ W : World, Below w.heap.size w W → Cvl.Lens W)) :
  Calls Tryz.prog 58 #[vi ki 6, .agg #[vi ki 0, vi ki u]] w fun r' w' => r' = zr (.tuple #[.agg #[vi ki 0, vi ki 0], vi ki e]) ∧ Below w.heap.size w w' := by
 have n_e : (e != 0) = true := bne_iff_ne.2 he
 have K0 := bsn2 w [vi ki 0, vi ki u] 36 [vi ki 0, vi ki 0] 36
 go_enter Tryz.func58, Tryz.ntmps58
 go_wp2_with fail
 refine (OF.out _ (hL.out _ K0.out.1)).mono ?_
 rintro e W1 ⟨rfl, hb⟩
 have K1 := bsb K0 hb
 clear hb K0
 obtain ⟨c1_0_0, c1_0_1⟩ := (bo1 K1).c2
 obtain ⟨c1_1_0, c1_1_1⟩ := (bo2 K1).c2
 have Mz1 := bsn K1 [vi ki 0, vi ki d] 111
 have lt1_0 := (bo1 K1).1
 have lt1_1 := (bo2 K1).1
 go_upto_region 4 with fail
 refine bs_to Mz1 ?_
 clear c1_0_0 c1_0_1 c1_1_0 c1_1_1
 intro W2 K2
 clear Mz1 K1
 obtain ⟨c2_0_0, c2_0_1⟩ := (bo1 K2).c2
 obtain ⟨c2_1_0, c2_1_1⟩ := (bo2 K2).c2
 obtain ⟨c2_2_0, c2_2_1⟩ := (bo3 K2).c2
 go_wp2_with fail
 refine (FD.out _ (hL.out _ K2.out.1)).mono ?_
 rintro e W3 ⟨rfl, hb⟩
 have K3 := bsb K2 hb
 clear c2_0_0 c2_0_1 c2_1_0 c2_1_1 c2_2_0 c2_2_1
 clear hb K2
 obtain ⟨c3_0_0, c3_0_1⟩ := (bo1 K3).c2
 obtain ⟨c3_1_0, c3_1_1⟩ := (bo2 K3).c2
 obtain ⟨c3_2_0, c3_2_1⟩ := (bo3 K3).c2
 have Mz3 := bsn K3 [vi ki 0, vi ki x] 111
 have lt3_0 := (bo1 K3).1
 have lt3_1 := (bo2 K3).1
 have lt3_2 := (bo3 K3).1
 go_upto_region 7 with fail
 refine bs_to Mz3 ?_
 clear c3_0_0 c3_0_1 c3_1_0 c3_1_1 c3_2_0 c3_2_1
 intro W4 K4
 clear Mz3 K3
 obtain ⟨c4_0_0, c4_0_1⟩ := (bo1 K4).c2
 obtain ⟨c4_1_0, c4_1_1⟩ := (bo2 K4).c2
 obtain ⟨c4_2_0, c4_2_1⟩ := (bo3 K4).c2
 obtain ⟨z4_2_0, z4_2_1⟩ := (bo3 K4).f2
 obtain ⟨c4_3_0, c4_3_1⟩ := (bo4 K4).c2
 have XF : Hid (Bx (W4.setCells (w.heap.size + 1) 0 [vi ki 0, vi ki 0]) (w.heap.size + 1) [vi ki 0, vi ki 0]) := (K4.out.at (w.heap.size + 1) [vi ki 0, vi ki 0] (by simp)).setAll _ rfl
 have BF : Hid (Below w.heap.size w (W4.setCells (w.heap.size + 1) 0 [vi ki 0, vi ki 0])) := below_setCells (by omega) _ _ _ K4.out.1
 have y0 := XF.out.c 0 rfl
 have y1 := XF.out.c 1 rfl
 simp only [World.setCells, Nat.zero_add] at y0 y1
 clear XF
 go_wp2
 exact bodyPost_ret (v := .tuple #[.agg #[vi ki 0, vi ki 0], vi ki e]) (by simp [results, Tryz.results58, go_sem, y0, y1]) rfl ⟨rfl, BF.out⟩
theorem bg_6 (u d us x v e : Int)
  (OF : Hid (∀ w : World, Cvl.Lens w → Calls Tryz.prog 97 #[.agg #[vi ki 0, vi ki u]] w fun r' w' => r' = zr (.tuple #[.agg #[vi ki 0, vi ki d], vi ki us, vi ki 0]) ∧ Below w.heap.size w w'))
  (FD : Hid (∀ w : World, Cvl.Lens w → Calls Tryz.prog 109 #[vi ki 6, .agg #[vi ki 0, vi ki d]] w fun r' w' => r' = zr (.tuple #[.agg #[vi ki 0, vi ki x], vi ki 0]) ∧ Below w.heap.size w w'))
  (SA : Hid (∀ w : World, Cvl.Lens w → Calls Tryz.prog 110 #[.agg #[vi ki 0, vi ki x]] w fun r' w' => r' = zr (.tuple #[.agg #[vi ki 0, vi ki v], vi ki e]) ∧ Below w.heap.size w w'))
  (w : World) (hL : Hid (∀ W : World, Below w.heap.size w W → Cvl.Lens W)) :
  Calls Tryz.prog 58 #[vi ki 6, .agg #[vi ki 0, vi ki u]] w fun r' w' => r' = zr (.tuple #[.agg #[vi ki 0, vi ki v], vi ki e]) ∧ Below w.heap.size w w' := by
 have K0 := bsn2 w [vi ki 0, vi ki u] 36 [vi ki 0, vi ki 0] 36
 go_enter Tryz.func58, Tryz.ntmps58
 go_wp2_with fail
 refine (OF.out _ (hL.out _ K0.out.1)).mono ?_
 rintro e W1 ⟨rfl, hb⟩
 have K1 := bsb K0 hb
 clear hb K0
 obtain ⟨c1_0_0, c1_0_1⟩ := (bo1 K1).c2
 obtain ⟨c1_1_0, c1_1_1⟩ := (bo2 K1).c2
 have Mz1 := bsn K1 [vi ki 0, vi ki d] 111
 have lt1_0 := (bo1 K1).1
 have lt1_1 := (bo2 K1).1
 go_upto_region 4 with fail
 refine bs_to Mz1 ?_
 clear c1_0_0 c1_0_1 c1_1_0 c1_1_1
 intro W2 K2
 clear Mz1 K1
 obtain ⟨c2_0_0, c2_0_1⟩ := (bo1 K2).c2
 obtain ⟨c2_1_0, c2_1_1⟩ := (bo2 K2).c2
 obtain ⟨c2_2_0, c2_2_1⟩ := (bo3 K2).c2
 go_wp2_with fail
 refine (FD.out _ (hL.out _ K2.out.1)).mono ?_
 rintro e W3 ⟨rfl, hb⟩
 have K3 := bsb K2 hb
 clear c2_0_0 c2_0_1 c2_1_0 c2_1_1 c2_2_0 c2_2_1
 clear hb K2
 obtain ⟨c3_0_0, c3_0_1⟩ := (bo1 K3).c2
 obtain ⟨c3_1_0, c3_1_1⟩ := (bo2 K3).c2
 obtain ⟨c3_2_0, c3_2_1⟩ := (bo3 K3).c2
 have Mz3 := bsn K3 [vi ki 0, vi ki x] 111
 have lt3_0 := (bo1 K3).1
 have lt3_1 := (bo2 K3).1
 have lt3_2 := (bo3 K3).1
 go_upto_region 7 with fail
 refine bs_to Mz3 ?_
 clear c3_0_0 c3_0_1 c3_1_0 c3_1_1 c3_2_0 c3_2_1
 intro W4 K4
 clear Mz3 K3
 obtain ⟨c4_0_0, c4_0_1⟩ := (bo1 K4).c2
 obtain ⟨c4_1_0, c4_1_1⟩ := (bo2 K4).c2
 obtain ⟨c4_2_0, c4_2_1⟩ := (bo3 K4).c2
 obtain ⟨c4_3_0, c4_3_1⟩ := (bo4 K4).c2
 go_wp2_with fail
 refine (SA.out _ (hL.out _ K4.out.1)).mono ?_
 rintro e W5 ⟨rfl, hb⟩
 have K5 := bsb K4 hb
 clear c4_0_0 c4_0_1 c4_1_0 c4_1_1 c4_2_0 c4_2_1 c4_3_0 c4_3_1
 clear hb K4
 obtain ⟨c5_0_0, c5_0_1⟩ := (bo1 K5).c2
 obtain ⟨c5_1_0, c5_1_1⟩ := (bo2 K5).c2
 obtain ⟨c5_2_0, c5_2_1⟩ := (bo3 K5).c2
 obtain ⟨z5_2_0, z5_2_1⟩ := (bo3 K5).f2
 obtain ⟨c5_3_0, c5_3_1⟩ := (bo4 K5).c2
 have XF : Hid (Bx (W5.setCells (w.heap.size + 1) 0 [vi ki 0, vi ki v]) (w.heap.size + 1) [vi ki 0, vi ki v]) := (K5.out.at (w.heap.size + 1) [vi ki 0, vi ki 0] (by simp)).setAll _ rfl
 have BF : Hid (Below w.heap.size w (W5.setCells (w.heap.size + 1) 0 [vi ki 0, vi ki v])) := below_setCells (by omega) _ _ _ K5.out.1
 have y0 := XF.out.c 0 rfl
 have y1 := XF.out.c 1 rfl
 simp only [World.setCells, Nat.zero_add] at y0 y1
 clear XF
 go_wp2
 exact bodyPost_ret (v := .tuple #[.agg #[vi ki 0, vi ki v], vi ki e]) (by simp [results, Tryz.results58, go_sem, y0, y1]) rfl ⟨rfl, BF.out⟩
theorem bg_7e (u d us x e : Int) (he : e ≠ 0)
  (OF : Hid (∀ w : World, Cvl.Lens w → Calls Tryz.prog 97 #[.agg #[vi ki 0, vi ki u]] w fun r' w' => r' = zr (.tuple #[.agg #[vi ki 0, vi ki d], vi ki us, vi ki 0]) ∧ Below w.heap.size w w'))
  (FD : Hid (∀ w : World, Cvl.Lens w → Calls Tryz.prog 109 #[vi ki 7, .agg #[vi ki 0, vi ki d]] w fun r' w' => r' = zr (.tuple #[.agg #[vi ki 0, vi ki x], vi ki e]) ∧ Below w.heap.size w w'))
  (w : World) (hL : Hid (∀ W : World, Below w.heap.size w W → Cvl.Lens W)) :
  Calls Tryz.prog 58 #[vi ki 7, .agg #[vi ki 0, vi ki u]] w fun r' w' => r' = zr (.tuple #[.agg #[vi ki 0, vi ki 0], vi ki e]) ∧ Below w.heap.size w w' := by
 have n_e : (e != 0) = true := bne_iff_ne.2 he
 have K0 := bsn2 w [vi ki 0, vi ki u] 36 [vi ki 0, vi ki 0] 36
 go_enter Tryz.func58, Tryz.ntmps58
 go_wp2_with fail
 refine (OF.out _ (hL.out _ K0.out.1)).mono ?_
 rintro e W1 ⟨rfl, hb⟩
 have K1 := bsb K0 hb
 clear hb K0
 obtain ⟨c1_0_0, c1_0_1⟩ := (bo1 K1).c2
 obtain ⟨c1_1_0, c1_1_1⟩ := (bo2 K1).c2
 have Mz1 := bsn K1 [vi ki 0, vi ki d] 111
 have lt1_0 := (bo1 K1).1
 have lt1_1 := (bo2 K1).1
 go_upto_region 4 with fail
 refine bs_to Mz1 ?_
 clear c1_0_0 c1_0_1 c1_1_0 c1_1_1
 intro W2 K2
 clear Mz1 K1
 obtain ⟨c2_0_0, c2_0_1⟩ := (bo1 K2).c2
 obtain ⟨c2_1_0, c2_1_1⟩ := (bo2 K2).c2
 obtain ⟨c2_2_0, c2_2_1⟩ := (bo3 K2).c2
 go_wp2_with fail
 refine (FD.out _ (hL.out _ K2.out.1)).mono ?_
 rintro e W3 ⟨rfl, hb⟩
 have K3 := bsb K2 hb
 clear c2_0_0 c2_0_1 c2_1_0 c2_1_1 c2_2_0 c2_2_1
 clear hb K2
 obtain ⟨c3_0_0, c3_0_1⟩ := (bo1 K3).c2
 obtain ⟨c3_1_0, c3_1_1⟩ := (bo2 K3).c2
 obtain ⟨c3_2_0, c3_2_1⟩ := (bo3 K3).c2
 have Mz3 := bsn K3 [vi ki 0, vi ki x] 111
 have lt3_0 := (bo1 K3).1
 have lt3_1 := (bo2 K3).1
 have lt3_2 := (bo3 K3).1
 go_upto_region 7 with fail
 refine bs_to Mz3 ?_
 clear c3_0_0 c3_0_1 c3_1_0 c3_1_1 c3_2_0 c3_2_1
 intro W4 K4
 clear Mz3 K3
 obtain ⟨c4_0_0, c4_0_1⟩ := (bo1 K4).c2
 obtain ⟨c4_1_0, c4_1_1⟩ := (bo2 K4).c2
 obtain ⟨c4_2_0, c4_2_1⟩ := (bo3 K4).c2
 obtain ⟨z4_2_0, z4_2_1⟩ := (bo3 K4).f2
 obtain ⟨c4_3_0, c4_3_1⟩ := (bo4 K4).c2
 have XF : Hid (Bx (W4.setCells (w.heap.size + 1) 0 [vi ki 0, vi ki 0]) (w.heap.size + 1) [vi ki 0, vi ki 0]) := (K4.out.at (w.heap.size + 1) [vi ki 0, vi ki 0] (by simp)).setAll _ rfl
 have BF : Hid (Below w.heap.size w (W4.setCells (w.heap.size + 1) 0 [vi ki 0, vi ki 0])) := below_setCells (by omega) _ _ _ K4.out.1
 have y0 := XF.out.c 0 rfl
 have y1 := XF.out.c 1 rfl
 simp only [World.setCells, Nat.zero_add] at y0 y1
 clear XF
 go_wp2
 exact bodyPost_ret (v := .tuple #[.agg #[vi ki 0, vi ki 0], vi ki e]) (by simp [results, Tryz.results58, go_sem, y0, y1]) rfl ⟨rfl, BF.out⟩
theorem bg_7 (u d us x v e : Int)
  (OF : Hid (∀ w : World, Cvl.Lens w → Calls Tryz.prog 97 #[.agg #[vi ki 0, vi ki u]] w fun r' w' => r' = zr (.tuple #[.agg #[vi ki 0, vi ki d], vi ki us, vi ki 0]) ∧ Below w.heap.size w w'))
  (FD : Hid (∀ w : World, Cvl.Lens w → Calls Tryz.prog 109 #[vi ki 7, .agg #[vi ki 0, vi ki d]] w fun r' w' => r' = zr (.tuple #[.agg #[vi ki 0, vi ki x], vi ki 0]) ∧ Below w.heap.size w w'))
  (SA : Hid (∀ w : World, Cvl.Lens w → Calls Tryz.prog 110 #[.agg #[vi ki 0, vi ki x]] w fun r' w' => r' = zr (.tuple #[.agg #[vi ki 0, vi ki v], vi ki e]) ∧ Below w.heap.size w w'))
  (w : World) (hL : Hid (∀ W : World, Below w.heap.size w W → Cvl.Lens W)) :
  Calls Tryz.prog 58 #[vi ki 7, .agg #[vi ki 0, vi ki u]] w fun r' w' => r' = zr (.tuple #[.agg #[vi ki 0, vi ki v], vi ki e]) ∧ Below w.heap.size w w' := by
 have K0 := bsn2 w [vi ki 0, vi ki u] 36 [vi ki 0, vi ki 0] 36
 go_enter Tryz.func58, Tryz.ntmps58
 go_wp2_with fail
 refine (OF.out _ (hL.out _ K0.out.1)).mono ?_
 rintro e W1 ⟨rfl, hb⟩
 have K1 := bsb K0 hb
 clear hb K0
 obtain ⟨c1_0_0, c1_0_1⟩ := (bo1 K1).c2
 obtain ⟨c1_1_0, c1_1_1⟩ := (bo2 K1).c2
 have Mz1 := bsn K1 [vi ki 0, vi ki d] 111
 have lt1_0 := (bo1 K1).1
 have lt1_1 := (bo2 K1).1
 go_upto_region 4 with fail
 refine bs_to Mz1 ?_
 clear c1_0_0 c1_0_1 c1_1_0 c1_1_1
 intro W2 K2
 clear Mz1 K1
 obtain ⟨c2_0_0, c2_0_1⟩ := (bo1 K2).c2
 obtain ⟨c2_1_0, c2_1_1⟩ := (bo2 K2).c2
 obtain ⟨c2_2_0, c2_2_1⟩ := (bo3 K2).c2
 go_wp2_with fail
 refine (FD.out _ (hL.out _ K2.out.1)).mono ?_
 rintro e W3 ⟨rfl, hb⟩
 have K3 := bsb K2 hb
 clear c2_0_0 c2_0_1 c2_1_0 c2_1_1 c2_2_0 c2_2_1
 clear hb K2
 obtain ⟨c3_0_0, c3_0_1⟩ := (bo1 K3).c2
 obtain ⟨c3_1_0, c3_1_1⟩ := (bo2 K3).c2
 obtain ⟨c3_2_0, c3_2_1⟩ := (bo3 K3).c2
 have Mz3 := bsn K3 [vi ki 0, vi ki x] 111
 have lt3_0 := (bo1 K3).1
 have lt3_1 := (bo2 K3).1
 have lt3_2 := (bo3 K3).1
 go_upto_region 7 with fail
 refine bs_to Mz3 ?_
 clear c3_0_0 c3_0_1 c3_1_0 c3_1_1 c3_2_0 c3_2_1
 intro W4 K4
 clear Mz3 K3
 obtain ⟨c4_0_0, c4_0_1⟩ := (bo1 K4).c2
 obtain ⟨c4_1_0, c4_1_1⟩ := (bo2 K4).c2
 obtain ⟨c4_2_0, c4_2_1⟩ := (bo3 K4).c2
 obtain ⟨c4_3_0, c4_3_1⟩ := (bo4 K4).c2
 go_wp2_with fail
 refine (SA.out _ (hL.out _ K4.out.1)).mono ?_
 rintro e W5 ⟨rfl, hb⟩
 have K5 := bsb K4 hb
 clear c4_0_0 c4_0_1 c4_1_0 c4_1_1 c4_2_0 c4_2_1 c4_3_0 c4_3_1
 clear hb K4
 obtain ⟨c5_0_0, c5_0_1⟩ := (bo1 K5).c2
 obtain ⟨c5_1_0, c5_1_1⟩ := (bo2 K5).c2
 obtain ⟨c5_2_0, c5_2_1⟩ := (bo3 K5).c2
 obtain ⟨z5_2_0, z5_2_1⟩ := (bo3 K5).f2
 obtain ⟨c5_3_0, c5_3_1⟩ := (bo4 K5).c2
 have XF : Hid (Bx (W5.setCells (w.heap.size + 1) 0 [vi ki 0, vi ki v]) (w.heap.size + 1) [vi ki 0, vi ki v]) := (K5.out.at (w.heap.size + 1) [vi ki 0, vi ki 0] (by simp)).setAll _ rfl
 have BF : Hid (Below w.heap.size w (W5.setCells (w.heap.size + 1) 0 [vi ki 0, vi ki v])) := below_setCells (by omega) _ _ _ K5.out.1
 have y0 := XF.out.c 0 rfl
 have y1 := XF.out.c 1 rfl
 simp only [World.setCells, Nat.zero_add] at y0 y1
 clear XF
 go_wp2
 exact bodyPost_ret (v := .tuple #[.agg #[vi ki 0, vi ki v], vi ki e]) (by simp [results, Tryz.results58, go_sem, y0, y1]) rfl ⟨rfl, BF.out⟩
theorem bg_8e (u d us x e : Int) (he : e ≠ 0)
  (OF : Hid (∀ w : World, Cvl.Lens w → Calls Tryz.prog 97 #[.agg #[vi ki 0, vi ki u]] w fun r' w' => r' = zr (.tuple #[.agg #[vi ki 0, vi ki d], vi ki us, vi ki 0]) ∧ Below w.heap.size w w'))
  (FD : Hid (∀ w : World, Cvl.Lens w → Calls Tryz.prog 109 #[vi ki 8, .agg #[vi ki 0, vi ki d]] w fun r' w' => r' = zr (.tuple #[.agg #[vi ki 0, vi ki x], vi ki e]) ∧ Below w.heap.size w w'))
  (w : World) (hL : Hid (∀ W : World, Below w.heap.size w W → Cvl.Lens W)) :
  Calls Tryz.prog 58 #[vi ki 8, .agg #[vi ki 0, vi ki u]] w fun r' w' => r' = zr (.tuple #[.agg #[vi ki 0, vi ki 0], vi ki e]) ∧ Below w.heap.size w w' := by
 have n_e : (e != 0) = true := bne_iff_ne.2 he
 have K0 := bsn2 w [vi ki 0, vi ki u] 36 [vi ki 0, vi ki 0] 36
 go_enter Tryz.func58, Tryz.ntmps58
 go_wp2_with fail
 refine (OF.out _ (hL.out _ K0.out.1)).mono ?_
 rintro e W1 ⟨rfl, hb⟩
 have K1 := bsb K0 hb
 clear hb K0
 obtain ⟨c1_0_0, c1_0_1⟩ := (bo1 K1).c2
 obtain ⟨c1_1_0, c1_1_1⟩ := (bo2 K1).c2
 have Mz1 := bsn K1 [vi ki 0, vi ki d] 111
 have lt1_0 := (bo1 K1).1
 have lt1_1 := (bo2 K1).1
 go_upto_region 4 with fail
 refine bs_to Mz1 ?_
 clear c1_0_0 c1_0_1 c1_1_0 c1_1_1
 intro W2 K2
 clear Mz1 K1
 obtain ⟨c2_0_0, c2_0_1⟩ := (bo1 K2).c2
 obtain ⟨c2_1_0, c2_1_1⟩ := (bo2 K2).c2
 obtain ⟨c2_2_0, c2_2_1⟩ := (bo3 K2).c2
 go_wp2_with fail
 refine (FD.out _ (hL.out _ K2.out.1)).mono ?_
 rintro e W3 ⟨rfl, hb⟩
 have K3 := bsb K2 hb
 clear c2_0_0 c2_0_1 c2_1_0 c2_1_1 c2_2_0 c2_2_1
 clear hb K2
 obtain ⟨c3_0_0, c3_0_1⟩ := (bo1 K3).c2
 obtain ⟨c3_1_0, c3_1_1⟩ := (bo2 K3).c2
 obtain ⟨c3_2_0, c3_2_1⟩ := (bo3 K3).c2
 have Mz3 := bsn K3 [vi ki 0, vi ki x] 111
 have lt3_0 := (bo1 K3).1
 have lt3_1 := (bo2 K3).1
 have lt3_2 := (bo3 K3).1
 go_upto_region 7 with fail
 refine bs_to Mz3 ?_
 clear c3_0_0 c3_0_1 c3_1_0 c3_1_1 c3_2_0 c3_2_1
 intro W4 K4
 clear Mz3 K3
 obtain ⟨c4_0_0, c4_0_1⟩ := (bo1 K4).c2
 obtain ⟨c4_1_0, c4_1_1⟩ := (bo2 K4).c2
 obtain ⟨c4_2_0, c4_2_1⟩ := (bo3 K4).c2
 obtain ⟨z4_2_0, z4_2_1⟩ := (bo3 K4).f2
 obtain ⟨c4_3_0, c4_3_1⟩ := (bo4 K4).c2
 have XF : Hid (Bx (W4.setCells (w.heap.size + 1) 0 [vi ki 0, vi ki 0]) (w.heap.size + 1) [vi ki 0, vi ki 0]) := (K4.out.at (w.heap.size + 1) [vi ki 0, vi ki 0] (by simp)).setAll _ rfl
 have BF : Hid (Below w.heap.size w (W4.setCells (w.heap.size + 1) 0 [vi ki 0, vi ki 0])) := below_setCells (by omega) _ _ _ K4.out.1
 have y0 := XF.out.c 0 rfl
 have y1 := XF.out.c 1 rfl
 simp only [World.setCells, Nat.zero_add] at y0 y1
 clear XF
 go_wp2
 exact bodyPost_ret (v := .tuple #[.agg #[vi ki 0, vi ki 0], vi ki e]) (by simp [results, Tryz.results58, go_sem, y0, y1]) rfl ⟨rfl, BF.out⟩
theorem bg_8 (u d us x v e : Int)
  (OF : Hid (∀ w : World, Cvl.Lens w → Calls Tryz.prog 97 #[.agg #[vi ki 0, vi ki u]] w fun r' w' => r' = zr (.tuple #[.agg #[vi ki 0, vi ki d], vi ki us, vi ki 0]) ∧ Below w.heap.size w w'))
  (FD : Hid (∀ w : World, Cvl.Lens w → Calls Tryz.prog 109 #[vi ki 8, .agg #[vi ki 0, vi ki d]] w fun r' w' => r' = zr (.tuple #[.agg #[vi ki 0, vi ki x], vi ki 0]) ∧ Below w.heap.size w w'))
  (SA : Hid (∀ w : World, Cvl.Lens w → Calls Tryz.prog 110 #[.agg #[vi ki 0, vi ki x]] w fun r' w' => r' = zr (.tuple #[.agg #[vi ki 0, vi ki v], vi ki e]) ∧ Below w.heap.size w w'))
  (w : World) (hL : Hid (∀ W : World, Below w.heap.size w W → Cvl.Lens W)) :
  Calls Tryz.prog 58 #[vi ki 8, .agg #[vi ki 0, vi ki u]] w fun r' w' => r' = zr (.tuple #[.agg #[vi ki 0, vi ki v], vi ki e]) ∧ Below w.heap.size w w' := by
 have K0 := bsn2 w [vi ki 0, vi ki u] 36 [vi ki 0, vi ki 0] 36
 go_enter Tryz.func58, Tryz.ntmps58
 go_wp2_with fail
 refine (OF.out _ (hL.out _ K0.out.1)).mono ?_
 rintro e W1 ⟨rfl, hb⟩
 have K1 := bsb K0 hb
 clear hb K0
 obtain ⟨c1_0_0, c1_0_1⟩ := (bo1 K1).c2
 obtain ⟨c1_1_0, c1_1_1⟩ := (bo2 K1).c2
 have Mz1 := bsn K1 [vi ki 0, vi ki d] 111
 have lt1_0 := (bo1 K1).1
 have lt1_1 := (bo2 K1).1
 go_upto_region 4 with fail
 refine bs_to Mz1 ?_
 clear c1_0_0 c1_0_1 c1_1_0 c1_1_1
 intro W2 K2
 clear Mz1 K1
 obtain ⟨c2_0_0, c2_0_1⟩ := (bo1 K2).c2
 obtain ⟨c2_1_0, c2_1_1⟩ := (bo2 K2).c2
 obtain ⟨c2_2_0, c2_2_1⟩ := (bo3 K2).c2
 go_wp2_with fail
 refine (FD.out _ (hL.out _ K2.out.1)).mono ?_
 rintro e W3 ⟨rfl, hb⟩
 have K3 := bsb K2 hb
 clear c2_0_0 c2_0_1 c2_1_0 c2_1_1 c2_2_0 c2_2_1
 clear hb K2
 obtain ⟨c3_0_0, c3_0_1⟩ := (bo1 K3).c2
 obtain ⟨c3_1_0, c3_1_1⟩ := (bo2 K3).c2
 obtain ⟨c3_2_0, c3_2_1⟩ := (bo3 K3).c2
 have Mz3 := bsn K3 [vi ki 0, vi ki x] 111
 have lt3_0 := (bo1 K3).1
 have lt3_1 := (bo2 K3).1
 have lt3_2 := (bo3 K3).1
 go_upto_region 7 with fail
 refine bs_to Mz3 ?_
 clear c3_0_0 c3_0_1 c3_1_0 c3_1_1 c3_2_0 c3_2_1
 intro W4 K4
 clear Mz3 K3
 obtain ⟨c4_0_0, c4_0_1⟩ := (bo1 K4).c2
 obtain ⟨c4_1_0, c4_1_1⟩ := (bo2 K4).c2
 obtain ⟨c4_2_0, c4_2_1⟩ := (bo3 K4).c2
 obtain ⟨c4_3_0, c4_3_1⟩ := (bo4 K4).c2
 go_wp2_with fail
 refine (SA.out _ (hL.out _ K4.out.1)).mono ?_
 rintro e W5 ⟨rfl, hb⟩
 have K5 := bsb K4 hb
 clear c4_0_0 c4_0_1 c4_1_0 c4_1_1 c4_2_0 c4_2_1 c4_3_0 c4_3_1
 clear hb K4
 obtain ⟨c5_0_0, c5_0_1⟩ := (bo1 K5).c2
 obtain ⟨c5_1_0, c5_1_1⟩ := (bo2 K5).c2
 obtain ⟨c5_2_0, c5_2_1⟩ := (bo3 K5).c2
 obtain ⟨z5_2_0, z5_2_1⟩ := (bo3 K5).f2
 obtain ⟨c5_3_0, c5_3_1⟩ := (bo4 K5).c2
 have XF : Hid (Bx (W5.setCells (w.heap.size + 1) 0 [vi ki 0, vi ki v]) (w.heap.size + 1) [vi ki 0, vi ki v]) := (K5.out.at (w.heap.size + 1) [vi ki 0, vi ki 0] (by simp)).setAll _ rfl
 have BF : Hid (Below w.heap.size w (W5.setCells (w.heap.size + 1) 0 [vi ki 0, vi ki v])) := below_setCells (by omega) _ _ _ K5.out.1
 have y0 := XF.out.c 0 rfl
 have y1 := XF.out.c 1 rfl
 simp only [World.setCells, Nat.zero_add] at y0 y1
 clear XF
 go_wp2
 exact bodyPost_ret (v := .tuple #[.agg #[vi ki 0, vi ki v], vi ki e]) (by simp [results, Tryz.results58, go_sem, y0, y1]) rfl ⟨rfl, BF.out⟩
theorem bg_9e (u d us x e : Int) (he : e ≠ 0)
  (OF : Hid (∀ w : World, Cvl.Lens w → Calls Tryz.prog 97 #[.agg #[vi ki 0, vi ki u]] w fun r' w' => r' = zr (.tuple #[.agg #[vi ki 0, vi ki d], vi ki us, vi ki 0]) ∧ Below w.heap.size w w'))
  (FD : Hid (∀ w : World, Cvl.Lens w → Calls Tryz.prog 109 #[vi ki 9, .agg #[vi ki 0, vi ki d]] w fun r' w' => r' = zr (.tuple #[.agg #[vi ki 0, vi ki x], vi ki e]) ∧ Below w.heap.size w w'))
  (w : World) (hL : Hid (∀ W : World, Below w.heap.size w W → Cvl.Lens W)) :
  Calls Tryz.prog 58 #[vi ki 9, .agg #[vi ki 0, vi ki u]] w fun r' w' => r' = zr (.tuple #[.agg #[vi ki 0, vi ki 0], vi ki e]) ∧ Below w.heap.size w w' := by
 have n_e : (e != 0) = true := bne_iff_ne.2 he
 have K0 := bsn2 w [vi ki 0, vi ki u] 36 [vi ki 0, vi ki 0] 36
 go_enter Tryz.func58, Tryz.ntmps58
 go_wp2_with fail
 refine (OF.out _ (hL.out _ K0.out.1)).mono ?_
 rintro e W1 ⟨rfl, hb⟩
 have K1 := bsb K0 hb
 clear hb K0
 obtain ⟨c1_0_0, c1_0_1⟩ := (bo1 K1).c2
 obtain ⟨c1_1_0, c1_1_1⟩ := (bo2 K1).c2
 have Mz1 := bsn K1 [vi ki 0, vi ki d] 111
 have lt1_0 := (bo1 K1).1
 have lt1_1 := (bo2 K1).1
 go_upto_region 4 with fail
 refine bs_to Mz1 ?_
 clear c1_0_0 c1_0_1 c1_1_0 c1_1_1
 intro W2 K2
 clear Mz1 K1
 obtain ⟨c2_0_0, c2_0_1⟩ := (bo1 K2).c2
 obtain ⟨c2_1_0, c2_1_1⟩ := (bo2 K2).c2
 obtain ⟨c2_2_0, c2_2_1⟩ := (bo3 K2).c2
 go_wp2_with fail
 refine (FD.out _ (hL.out _ K2.out.1)).mono ?_
 rintro e W3 ⟨rfl, hb⟩
 have K3 := bsb K2 hb
 clear c2_0_0 c2_0_1 c2_1_0 c2_1_1 c2_2_0 c2_2_1
 clear hb K2
 obtain ⟨c3_0_0, c3_0_1⟩ := (bo1 K3).c2
 obtain ⟨c3_1_0, c3_1_1⟩ := (bo2 K3).c2
 obtain ⟨c3_2_0, c3_2_1⟩ := (bo3 K3).c2
 have Mz3 := bsn K3 [vi ki 0, vi ki x] 111
 have lt3_0 := (bo1 K3).1
 have lt3_1 := (bo2 K3).1
 have lt3_2 := (bo3 K3).1
 go_upto_region 7 with fail
 refine bs_to Mz3 ?_
 clear c3_0_0 c3_0_1 c3_1_0 c3_1_1 c3_2_0 c3_2_1
 intro W4 K4
 clear Mz3 K3
 obtain ⟨c4_0_0, c4_0_1⟩ := (bo1 K4).c2
 obtain ⟨c4_1_0, c4_1_1⟩ := (bo2 K4).c2
 obtain ⟨c4_2_0, c4_2_1⟩ := (bo3 K4).c2
 obtain ⟨z4_2_0, z4_2_1⟩ := (bo3 K4).f2
 obtain ⟨c4_3_0, c4_3_1⟩ := (bo4 K4).c2
 have XF : Hid (Bx (W4.setCells (w.heap.size + 1) 0 [vi ki 0, vi ki 0]) (w.heap.size + 1) [vi ki 0, vi ki 0]) := (K4.out.at (w.heap.size + 1) [vi ki 0, vi ki 0] (by simp)).setAll _ rfl
 have BF : Hid (Below w.heap.size w (W4.setCells (w.heap.size + 1) 0 [vi ki 0, vi ki 0])) := below_setCells (by omega) _ _ _ K4.out.1
 have y0 := XF.out.c 0 rfl
 have y1 := XF.out.c 1 rfl
 simp only [World.setCells, Nat.zero_add] at y0 y1
 clear XF
 go_wp2
 exact bodyPost_ret (v := .tuple #[.agg #[vi ki 0, vi ki 0], vi ki e]) (by simp [results, Tryz.results58, go_sem, y0, y1]) rfl ⟨rfl, BF.out⟩
theorem bg_9 (u d us x v e : Int)
  (OF : Hid (∀ w : World, Cvl.Lens w → Calls Tryz.prog 97 #[.agg #[vi ki 0, vi ki u]] w fun r' w' => r' = zr (.tuple #[.agg #[vi ki 0, vi ki d], vi ki us, vi ki 0]) ∧ Below w.heap.size w w'))
  (FD : Hid (∀ w : World, Cvl.Lens w → Calls Tryz.prog 109 #[vi ki 9, .agg #[vi ki 0, vi ki d]] w fun r' w' => r' = zr (.tuple #[.agg #[vi ki 0, vi ki x], vi ki 0]) ∧ Below w.heap.size w w'))
  (SA : Hid (∀ w : World, Cvl.Lens w → Calls Tryz.prog 110 #[.agg #[vi ki 0, vi ki x]] w fun r' w' => r' = zr (.tuple #[.agg #[vi ki 0, vi ki v], vi ki e]) ∧ Below w.heap.size w w'))
  (w : World) (hL : Hid (∀ W : World, Below w.heap.size w W → Cvl.Lens W)) :
  Calls Tryz.prog 58 #[vi ki 9, .agg #[vi ki 0, vi ki u]] w fun r' w' => r' = zr (.tuple #[.agg #[vi ki 0, vi ki v], vi ki e]) ∧ Below w.heap.size w w' := by
 have K0 := bsn2 w [vi ki 0, vi ki u] 36 [vi ki 0, vi ki 0] 36
 go_enter Tryz.func58, Tryz.ntmps58
 go_wp2_with fail
 refine (OF.out _ (hL.out _ K0.out.1)).mono ?_
 rintro e W1 ⟨rfl, hb⟩
 have K1 := bsb K0 hb
 clear hb K0
 obtain ⟨c1_0_0, c1_0_1⟩ := (bo1 K1).c2
 obtain ⟨c1_1_0, c1_1_1⟩ := (bo2 K1).c2
 have Mz1 := bsn K1 [vi ki 0, vi ki d] 111
 have lt1_0 := (bo1 K1).1
 have lt1_1 := (bo2 K1).1
 go_upto_region 4 with fail
 refine bs_to Mz1 ?_
 clear c1_0_0 c1_0_1 c1_1_0 c1_1_1
 intro W2 K2
 clear Mz1 K1
 obtain ⟨c2_0_0, c2_0_1⟩ := (bo1 K2).c2
 obtain ⟨c2_1_0, c2_1_1⟩ := (bo2 K2).c2
 obtain ⟨c2_2_0, c2_2_1⟩ := (bo3 K2).c2
 go_wp2_with fail
 refine (FD.out _ (hL.out _ K2.out.1)).mono ?_
 rintro e W3 ⟨rfl, hb⟩
 have K3 := bsb K2 hb
 clear c2_0_0 c2_0_1 c2_1_0 c2_1_1 c2_2_0 c2_2_1
 clear hb K2
 obtain ⟨c3_0_0, c3_0_1⟩ := (bo1 K3).c2
 obtain ⟨c3_1_0, c3_1_1⟩ := (bo2 K3).c2
 obtain ⟨c3_2_0, c3_2_1⟩ := (bo3 K3).c2
 have Mz3 := bsn K3 [vi ki 0, vi ki x] 111
 have lt3_0 := (bo1 K3).1
 have lt3_1 := (bo2 K3).1
 have lt3_2 := (bo3 K3).1
 go_upto_region 7 with fail
 refine bs_to Mz3 ?_
 clear c3_0_0 c3_0_1 c3_1_0 c3_1_1 c3_2_0 c3_2_1
 intro W4 K4
 clear Mz3 K3
 obtain ⟨c4_0_0, c4_0_1⟩ := (bo1 K4).c2
 obtain ⟨c4_1_0, c4_1_1⟩ := (bo2 K4).c2
 obtain ⟨c4_2_0, c4_2_1⟩ := (bo3 K4).c2
 obtain ⟨c4_3_0, c4_3_1⟩ := (bo4 K4).c2
 go_wp2_with fail
 refine (SA.out _ (hL.out _ K4.out.1)).mono ?_
 rintro e W5 ⟨rfl, hb⟩
 have K5 := bsb K4 hb
 clear c4_0_0 c4_0_1 c4_1_0 c4_1_1 c4_2_0 c4_2_1 c4_3_0 c4_3_1
 clear hb K4
 obtain ⟨c5_0_0, c5_0_1⟩ := (bo1 K5).c2
 obtain ⟨c5_1_0, c5_1_1⟩ := (bo2 K5).c2
 obtain ⟨c5_2_0, c5_2_1⟩ := (bo3 K5).c2
 obtain ⟨z5_2_0, z5_2_1⟩ := (bo3 K5).f2
 obtain ⟨c5_3_0, c5_3_1⟩ := (bo4 K5).c2
 have XF : Hid (Bx (W5.setCells (w.heap.size + 1) 0 [vi ki 0, vi ki v]) (w.heap.size + 1) [vi ki 0, vi ki v]) := (K5.out.at (w.heap.size + 1) [vi ki 0, vi ki 0] (by simp)).setAll _ rfl
 have BF : Hid (Below w.heap.size w (W5.setCells (w.heap.size + 1) 0 [vi ki 0, vi ki v])) := below_setCells (by omega) _ _ _ K5.out.1
 have y0 := XF.out.c 0 rfl
 have y1 := XF.out.c 1 rfl
 simp only [World.setCells, Nat.zero_add] at y0 y1
 clear XF
 go_wp2
 exact bodyPost_ret (v := .tuple #[.agg #[vi ki 0, vi ki v], vi ki e]) (by simp [results, Tryz.results58, go_sem, y0, y1]) rfl ⟨rfl, BF.out⟩
theorem bg_10e (u d us x e : Int) (he : e ≠ 0)
  (OF : Hid (∀ w : World, Cvl.Lens w → Calls Tryz.prog 97 #[.agg #[vi ki 0, vi ki u]] w fun r' w' => r' = zr (.tuple #[.agg #[vi ki 0, vi ki d], vi ki us, vi ki 0]) ∧ Below w.heap.size w w'))
  (FD : Hid (∀ w : World, Cvl.Lens w → Calls Tryz.prog 109 #[vi ki 10, .agg #[vi ki 0, vi ki d]] w fun r' w' => r' = zr (.tuple #[.agg #[vi ki 0, vi ki x], vi ki e]) ∧ Below w.heap.size w w'))
  (w : World) (hL : Hid (∀ W : World, Below w.heap.size w W → Cvl.Lens W)) :
  Calls Tryz.prog 58 #[vi ki 10, .agg #[vi ki 0, vi ki u]] w fun r' w' => r' = zr (.tuple #[.agg #[vi ki 0, vi ki 0], vi ki e]) ∧ Below w.heap.size w w' := by
 have n_e : (e != 0) = true := bne_iff_ne.2 he
 have K0 := bsn2 w [vi ki 0, vi ki u] 36 [vi ki 0, vi ki 0] 36
 go_enter Tryz.func58, Tryz.ntmps58
 go_wp2_with fail
 refine (OF.out _ (hL.out _ K0.out.1)).mono ?_
 rintro e W1 ⟨rfl, hb⟩
 have K1 := bsb K0 hb
 clear hb K0
 obtain ⟨c1_0_0, c1_0_1⟩ := (bo1 K1).c2
 obtain ⟨c1_1_0, c1_1_1⟩ := (bo2 K1).c2
 have Mz1 := bsn K1 [vi ki 0, vi ki d] 111
 have lt1_0 := (bo1 K1).1
 have lt1_1 := (bo2 K1).1
 go_upto_region 4 with fail
 refine bs_to Mz1 ?_
 clear c1_0_0 c1_0_1 c1_1_0 c1_1_1
 intro W2 K2
 clear Mz1 K1
 obtain ⟨c2_0_0, c2_0_1⟩ := (bo1 K2).c2
 obtain ⟨c2_1_0, c2_1_1⟩ := (bo2 K2).c2
 obtain ⟨c2_2_0, c2_2_1⟩ := (bo3 K2).c2
 go_wp2_with fail
 refine (FD.out _ (hL.out _ K2.out.1)).mono ?_
 rintro e W3 ⟨rfl, hb⟩
 have K3 := bsb K2 hb
 clear c2_0_0 c2_0_1 c2_1_0 c2_1_1 c2_2_0 c2_2_1
 clear hb K2
 obtain ⟨c3_0_0, c3_0_1⟩ := (bo1 K3).c2
 obtain ⟨c3_1_0, c3_1_1⟩ := (bo2 K3).c2
 obtain ⟨c3_2_0, c3_2_1⟩ := (bo3 K3).c2
 have Mz3 := bsn K3 [vi ki 0, vi ki x] 111
 have lt3_0 := (bo1 K3).1
 have lt3_1 := (bo2 K3).1
 have lt3_2 := (bo3 K3).1
 go_upto_region 7 with fail
 refine bs_to Mz3 ?_
 clear c3_0_0 c3_0_1 c3_1_0 c3_1_1 c3_2_0 c3_2_1
 intro W4 K4
 clear Mz3 K3
 obtain ⟨c4_0_0, c4_0_1⟩ := (bo1 K4).c2
 obtain ⟨c4_1_0, c4_1_1⟩ := (bo2 K4).c2
 obtain ⟨c4_2_0, c4_2_1⟩ := (bo3 K4).c2
 obtain ⟨z4_2_0, z4_2_1⟩ := (bo3 K4).f2
 obtain ⟨c4_3_0, c4_3_1⟩ := (bo4 K4).c2
 have XF : Hid (Bx (W4.setCells (w.heap.size + 1) 0 [vi ki 0, vi ki 0]) (w.heap.size + 1) [vi ki 0, vi ki 0]) := (K4.out.at (w.heap.size + 1) [vi ki 0, vi ki 0] (by simp)).setAll _ rfl
 have BF : Hid (Below w.heap.size w (W4.setCells (w.heap.size + 1) 0 [vi ki 0, vi ki 0])) := below_setCells (by omega) _ _ _ K4.out.1
 have y0 := XF.out.c 0 rfl
 have y1 := XF.out.c 1 rfl
 simp only [World.setCells, Nat.zero_add] at y0 y1
 clear XF
 go_wp2
 exact bodyPost_ret (v := .tuple #[.agg #[vi ki 0, vi ki 0], vi ki e]) (by simp [results, Tryz.results58, go_sem, y0, y1]) rfl ⟨rfl, BF.out⟩
theorem bg_10 (u d us x v e : Int)
  (OF : Hid (∀ w : World, Cvl.Lens w → Calls Tryz.prog 97 #[.agg #[vi ki 0, vi ki u]] w fun r' w' => r' = zr (.tuple #[.agg #[vi ki 0, vi ki d], vi ki us, vi ki 0]) ∧ Below w.heap.size w w'))
  (FD : Hid (∀ w : World, Cvl.Lens w → Calls Tryz.prog 109 #[vi ki 10, .agg #[vi ki 0, vi ki d]] w fun r' w' => r' = zr (.tuple #[.agg #[vi ki 0, vi ki x], vi ki 0]) ∧ Below w.heap.size w w'))
  (SA : Hid (∀ w : World, Cvl.Lens w → Calls Tryz.prog 110 #[.agg #[vi ki 0, vi ki x]] w fun r' w' => r' = zr (.tuple #[.agg #[vi ki 0, vi ki v], vi ki e]) ∧ Below w.heap.size w w'))
  (w : World) (hL : Hid (∀ W : World, Below w.heap.size w W → Cvl.Lens W)) :
  Calls Tryz.prog 58 #[vi ki 10, .agg #[vi ki 0, vi ki u]] w fun r' w' => r' = zr (.tuple #[.agg #[vi ki 0, vi ki v], vi ki e]) ∧ Below w.heap.size w w' := by
 have K0 := bsn2 w [vi ki 0, vi ki u] 36 [vi ki 0, vi ki 0] 36
 go_enter Tryz.func58, Tryz.ntmps58
 go_wp2_with fail
 refine (OF.out _ (hL.out _ K0.out.1)).mono ?_
 rintro e W1 ⟨rfl, hb⟩
 have K1 := bsb K0 hb
 clear hb K0
 obtain ⟨c1_0_0, c1_0_1⟩ := (bo1 K1).c2
 obtain ⟨c1_1_0, c1_1_1⟩ := (bo2 K1).c2
 have Mz1 := bsn K1 [vi ki 0, vi ki d] 111
 have lt1_0 := (bo1 K1).1
 have lt1_1 := (bo2 K1).1
 go_upto_region 4 with fail
 refine bs_to Mz1 ?_
 clear c1_0_0 c1_0_1 c1_1_0 c1_1_1
 intro W2 K2
 clear Mz1 K1
 obtain ⟨c2_0_0, c2_0_1⟩ := (bo1 K2).c2
 obtain ⟨c2_1_0, c2_1_1⟩ := (bo2 K2).c2
 obtain ⟨c2_2_0, c2_2_1⟩ := (bo3 K2).c2
 go_wp2_with fail
 refine (FD.out _ (hL.out _ K2.out.1)).mono ?_
 rintro e W3 ⟨rfl, hb⟩
 have K3 := bsb K2 hb
 clear c2_0_0 c2_0_1 c2_1_0 c2_1_1 c2_2_0 c2_2_1
 clear hb K2
 obtain ⟨c3_0_0, c3_0_1⟩ := (bo1 K3).c2
 obtain ⟨c3_1_0, c3_1_1⟩ := (bo2 K3).c2
 obtain ⟨c3_2_0, c3_2_1⟩ := (bo3 K3).c2
 have Mz3 := bsn K3 [vi ki 0, vi ki x] 111
 have lt3_0 := (bo1 K3).1
 have lt3_1 := (bo2 K3).1
 have lt3_2 := (bo3 K3).1
 go_upto_region 7 with fail
 refine bs_to Mz3 ?_
 clear c3_0_0 c3_0_1 c3_1_0 c3_1_1 c3_2_0 c3_2_1
 intro W4 K4
 clear Mz3 K3
 obtain ⟨c4_0_0, c4_0_1⟩ := (bo1 K4).c2
 obtain ⟨c4_1_0, c4_1_1⟩ := (bo2 K4).c2
 obtain ⟨c4_2_0, c4_2_1⟩ := (bo3 K4).c2
 obtain ⟨c4_3_0, c4_3_1⟩ := (bo4 K4).c2
 go_wp2_with fail
 refine (SA.out _ (hL.out _ K4.out.1)).mono ?_
 rintro e W5 ⟨rfl, hb⟩
 have K5 := bsb K4 hb
 clear c4_0_0 c4_0_1 c4_1_0 c4_1_1 c4_2_0 c4_2_1 c4_3_0 c4_3_1
 clear hb K4
 obtain ⟨c5_0_0, c5_0_1⟩ := (bo1 K5).c2
 obtain ⟨c5_1_0, c5_1_1⟩ := (bo2 K5).c2
 obtain ⟨c5_2_0, c5_2_1⟩ := (bo3 K5).c2
 obtain ⟨z5_2_0, z5_2_1⟩ := (bo3 K5).f2
 obtain ⟨c5_3_0, c5_3_1⟩ := (bo4 K5).c2
 have XF : Hid (Bx (W5.setCells (w.heap.size + 1) 0 [vi ki 0, vi ki v]) (w.heap.size + 1) [vi ki 0, vi ki v]) := (K5.out.at (w.heap.size + 1) [vi ki 0, vi ki 0] (by simp)).setAll _ rfl
 have BF : Hid (Below w.heap.size w (W5.setCells (w.heap.size + 1) 0 [vi ki 0, vi ki v])) := below_setCells (by omega) _ _ _ K5.out.1
 have y0 := XF.out.c 0 rfl
 have y1 := XF.out.c 1 rfl
 simp only [World.setCells, Nat.zero_add] at y0 y1
 clear XF
 go_wp2
 exact bodyPost_ret (v := .tuple #[.agg #[vi ki 0, vi ki v], vi ki e]) (by simp [results, Tryz.results58, go_sem, y0, y1]) rfl ⟨rfl, BF.out⟩
theorem bg_11e (u d us x e : Int) (he : e ≠ 0)
  (OF : Hid (∀ w : World, Cvl.Lens w → Calls Tryz.prog 97 #[.agg #[vi ki 0, vi ki u]] w fun r' w' => r' = zr (.tuple #[.agg #[vi ki 0, vi ki d], vi ki us, vi ki 0]) ∧ Below w.heap.size w w'))
  (FD : Hid (∀ w : World, Cvl.Lens w → Calls Tryz.prog 109 #[vi ki 11, .agg #[vi ki 0, vi ki d]] w fun r' w' => r' = zr (.tuple #[.agg #[vi ki 0, vi ki x], vi ki e]) ∧ Below w.heap.size w w'))
  (w : World) (hL : Hid (∀ W : World, Below w.heap.size w W → Cvl.Lens W)) :
  Calls Tryz.prog 58 #[vi ki 11, .agg #[vi ki 0, vi ki u]] w fun r' w' => r' = zr (.tuple #[.agg #[vi ki 0, vi ki 0], vi ki e]) ∧ Below w.heap.size w w' := by
 have n_e : (e != 0) = true := bne_iff_ne.2 he
 have K0 := bsn2 w [vi ki 0, vi ki u] 36 [vi ki 0, vi ki 0] 36
 go_enter Tryz.func58, Tryz.ntmps58
 go_wp2_with fail
 refine (OF.out _ (hL.out _ K0.out.1)).mono ?_
 rintro e W1 ⟨rfl, hb⟩
 have K1 := bsb K0 hb
 clear hb K0
 obtain ⟨c1_0_0, c1_0_1⟩ := (bo1 K1).c2
 obtain ⟨c1_1_0, c1_1_1⟩ := (bo2 K1).c2
 have Mz1 := bsn K1 [vi ki 0, vi ki d] 111
 have lt1_0 := (bo1 K1).1
 have lt1_1 := (bo2 K1).1
 go_upto_region 4 with fail
 refine bs_to Mz1 ?_
 clear c1_0_0 c1_0_1 c1_1_0 c1_1_1
 intro W2 K2
 clear Mz1 K1
 obtain ⟨c2_0_0, c2_0_1⟩ := (bo1 K2).c2
 obtain ⟨c2_1_0, c2_1_1⟩ := (bo2 K2).c2
 obtain ⟨c2_2_0, c2_2_1⟩ := (bo3 K2).c2
 go_wp2_with fail
 refine (FD.out _ (hL.out _ K2.out.1)).mono ?_
 rintro e W3 ⟨rfl, hb⟩
 have K3 := bsb K2 hb
 clear c2_0_0 c2_0_1 c2_1_0 c2_1_1 c2_2_0 c2_2_1
 clear hb K2
 obtain ⟨c3_0_0, c3_0_1⟩ := (bo1 K3).c2
 obtain ⟨c3_1_0, c3_1_1⟩ := (bo2 K3).c2
 obtain ⟨c3_2_0, c3_2_1⟩ := (bo3 K3).c2
 have Mz3 := bsn K3 [vi ki 0, vi ki x] 111
 have lt3_0 := (bo1 K3).1
 have lt3_1 := (bo2 K3).1
 have lt3_2 := (bo3 K3).1
 go_upto_region 7 with fail
 refine bs_to Mz3 ?_
 clear c3_0_0 c3_0_1 c3_1_0 c3_1_1 c3_2_0 c3_2_1
 intro W4 K4
 clear Mz3 K3
 obtain ⟨c4_0_0, c4_0_1⟩ := (bo1 K4).c2
 obtain ⟨c4_1_0, c4_1_1⟩ := (bo2 K4).c2
 obtain ⟨c4_2_0, c4_2_1⟩ := (bo3 K4).c2
 obtain ⟨z4_2_0, z4_2_1⟩ := (bo3 K4).f2
 obtain ⟨c4_3_0, c4_3_1⟩ := (bo4 K4).c2
 have XF : Hid (Bx (W4.setCells (w.heap.size + 1) 0 [vi ki 0, vi ki 0]) (w.heap.size + 1) [vi ki 0, vi ki 0]) := (K4.out.at (w.heap.size + 1) [vi ki 0, vi ki 0] (by simp)).setAll _ rfl
 have BF : Hid (Below w.heap.size w (W4.setCells (w.heap.size + 1) 0 [vi ki 0, vi ki 0])) := below_setCells (by omega) _ _ _ K4.out.1
 have y0 := XF.out.c 0 rfl
 have y1 := XF.out.c 1 rfl
 simp only [World.setCells, Nat.zero_add] at y0 y1
 clear XF
 go_wp2
 exact bodyPost_ret (v := .tuple #[.agg #[vi ki 0, vi ki 0], vi ki e]) (by simp [results, Tryz.results58, go_sem, y0, y1]) rfl ⟨rfl, BF.out⟩
theorem bg_11 (u d us x v e : Int)
  (OF : Hid (∀ w : World, Cvl.Lens w → Calls Tryz.prog 97 #[.agg #[vi ki 0, vi ki u]] w fun r' w' => r' = zr (.tuple #[.agg #[vi ki 0, vi ki d], vi ki us, vi ki 0]) ∧ Below w.heap.size w w'))
  (FD : Hid (∀ w : World, Cvl.Lens w → Calls Tryz.prog 109 #[vi ki 11, .agg #[vi ki 0, vi ki d]] w fun r' w' => r' = zr (.tuple #[.agg #[vi ki 0, vi ki x], vi ki 0]) ∧ Below w.heap.size w w'))
  (SA : Hid (∀ w : World, Cvl.Lens w → Calls Tryz.prog 110 #[.agg #[vi ki 0, vi ki x]] w fun r' w' => r' = zr (.tuple #[.agg #[vi ki 0, vi ki v], vi ki e]) ∧ Below w.heap.size w w'))
  (w : World) (hL : Hid (∀ W : World, Below w.heap.size w W → Cvl.Lens W)) :
  Calls Tryz.prog 58 #[vi ki 11, .agg #[vi ki 0, vi ki u]] w fun r' w' => r' = zr (.tuple #[.agg #[vi ki 0, vi ki v], vi ki e]) ∧ Below w.heap.size w w' := by
 have K0 := bsn2 w [vi ki 0, vi ki u] 36 [vi ki 0, vi ki 0] 36
 go_enter Tryz.func58, Tryz.ntmps58
 go_wp2_with fail
 refine (OF.out _ (hL.out _ K0.out.1)).mono ?_
 rintro e W1 ⟨rfl, hb⟩
 have K1 := bsb K0 hb
 clear hb K0
 obtain ⟨c1_0_0, c1_0_1⟩ := (bo1 K1).c2
 obtain ⟨c1_1_0, c1_1_1⟩ := (bo2 K1).c2
 have Mz1 := bsn K1 [vi ki 0, vi ki d] 111
 have lt1_0 := (bo1 K1).1
 have lt1_1 := (bo2 K1).1
 go_upto_region 4 with fail
 refine bs_to Mz1 ?_
 clear c1_0_0 c1_0_1 c1_1_0 c1_1_1
 intro W2 K2
 clear Mz1 K1
 obtain ⟨c2_0_0, c2_0_1⟩ := (bo1 K2).c2
 obtain ⟨c2_1_0, c2_1_1⟩ := (bo2 K2).c2
 obtain ⟨c2_2_0, c2_2_1⟩ := (bo3 K2).c2
 go_wp2_with fail
 refine (FD.out _ (hL.out _ K2.out.1)).mono ?_
 rintro e W3 ⟨rfl, hb⟩
 have K3 := bsb K2 hb
 clear c2_0_0 c2_0_1 c2_1_0 c2_1_1 c2_2_0 c2_2_1
 clear hb K2
 obtain ⟨c3_0_0, c3_0_1⟩ := (bo1 K3).c2
 obtain ⟨c3_1_0, c3_1_1⟩ := (bo2 K3).c2
 obtain ⟨c3_2_0, c3_2_1⟩ := (bo3 K3).c2
 have Mz3 := bsn K3 [vi ki 0, vi ki x] 111
 have lt3_0 := (bo1 K3).1
 have lt3_1 := (bo2 K3).1
 have lt3_2 := (bo3 K3).1
 go_upto_region 7 with fail
 refine bs_to Mz3 ?_
 clear c3_0_0 c3_0_1 c3_1_0 c3_1_1 c3_2_0 c3_2_1
 intro W4 K4
 clear Mz3 K3
 obtain ⟨c4_0_0, c4_0_1⟩ := (bo1 K4).c2
 obtain ⟨c4_1_0, c4_1_1⟩ := (bo2 K4).c2
 obtain ⟨c4_2_0, c4_2_1⟩ := (bo3 K4).c2
 obtain ⟨c4_3_0, c4_3_1⟩ := (bo4 K4).c2
 go_wp2_with fail
 refine (SA.out _ (hL.out _ K4.out.1)).mono ?_
 rintro e W5 ⟨rfl, hb⟩
 have K5 := bsb K4 hb
 clear c4_0_0 c4_0_1 c4_1_0 c4_1_1 c4_2_0 c4_2_1 c4_3_0 c4_3_1
 clear hb K4
 obtain ⟨c5_0_0, c5_0_1⟩ := (bo1 K5).c2
 obtain ⟨c5_1_0, c5_1_1⟩ := (bo2 K5).c2
 obtain ⟨c5_2_0, c5_2_1⟩ := (bo3 K5).c2
 obtain ⟨z5_2_0, z5_2_1⟩ := (bo3 K5).f2
 obtain ⟨c5_3_0, c5_3_1⟩ := (bo4 K5).c2
 have XF : Hid (Bx (W5.setCells (w.heap.size + 1) 0 [vi ki 0, vi ki v]) (w.heap.size + 1) [vi ki 0, vi ki v]) := (K5.out.at (w.heap.size + 1) [vi ki 0, vi ki 0] (by simp)).setAll _ rfl
 have BF : Hid (Below w.heap.size w (W5.setCells (w.heap.size + 1) 0 [vi ki 0, vi ki v])) := below_setCells (by omega) _ _ _ K5.out.1
 have y0 := XF.out.c 0 rfl
 have y1 := XF.out.c 1 rfl
 simp only [World.setCells, Nat.zero_add] at y0 y1
 clear XF
 go_wp2
 exact bodyPost_ret (v := .tuple #[.agg #[vi ki 0, vi ki v], vi ki e]) (by simp [results, Tryz.results58, go_sem, y0, y1]) rfl ⟨rfl, BF.out⟩
theorem bg_12e (u d us x e : Int) (he : e ≠ 0)
  (OF : Hid (∀ w : World, Cvl.Lens w → Calls Tryz.prog 97 #[.agg #[vi ki 0, vi ki u]] w fun r' w' => r' = zr (.tuple #[.agg #[vi ki 0, vi ki d], vi ki us, vi ki 0]) ∧ Below w.heap.size w w'))
  (FD : Hid (∀ w : World, Cvl.Lens w → Calls Tryz.prog 109 #[vi ki 12, .agg #[vi ki 0, vi ki d]] w fun r' w' => r' = zr (.tuple #[.agg #[vi ki 0, vi ki x], vi ki e]) ∧ Below w.heap.size w w'))
  (w : World) (hL : Hid (∀ W : World, Below w.heap.size w W → Cvl.Lens W)) :
  Calls Tryz.prog 58 #[vi ki 12, .agg #[vi ki 0, vi ki u]] w fun r' w' => r' = zr (.tuple #[.agg #[vi ki 0, vi ki 0], vi ki e]) ∧ Below w.heap.size w w' := by
 have n_e : (e != 0) = true := bne_iff_ne.2 he
 have K0 := bsn2 w [vi ki 0, vi ki u] 36 [vi ki 0, vi ki 0] 36
 go_enter Tryz.func58, Tryz.ntmps58
 go_wp2_with fail
 refine (OF.out _ (hL.out _ K0.out.1)).mono ?_
 rintro e W1 ⟨rfl, hb⟩
 have K1 := bsb K0 hb
 clear hb K0
 obtain ⟨c1_0_0, c1_0_1⟩ := (bo1 K1).c2
 obtain ⟨c1_1_0, c1_1_1⟩ := (bo2 K1).c2
 have Mz1 := bsn K1 [vi ki 0, vi ki d] 111
 have lt1_0 := (bo1 K1).1
 have lt1_1 := (bo2 K1).1
 go_upto_region 4 with fail
 refine bs_to Mz1 ?_
 clear c1_0_0 c1_0_1 c1_1_0 c1_1_1
 intro W2 K2
 clear Mz1 K1
 obtain ⟨c2_0_0, c2_0_1⟩ := (bo1 K2).c2
 obtain ⟨c2_1_0, c2_1_1⟩ := (bo2 K2).c2
 obtain ⟨c2_2_0, c2_2_1⟩ := (bo3 K2).c2
 go_wp2_with fail
 refine (FD.out _ (hL.out _ K2.out.1)).mono ?_
 rintro e W3 ⟨rfl, hb⟩
 have K3 := bsb K2 hb
 clear c2_0_0 c2_0_1 c2_1_0 c2_1_1 c2_2_0 c2_2_1
 clear hb K2
 obtain ⟨c3_0_0, c3_0_1⟩ := (bo1 K3).c2
 obtain ⟨c3_1_0, c3_1_1⟩ := (bo2 K3).c2
 obtain ⟨c3_2_0, c3_2_1⟩ := (bo3 K3).c2
 have Mz3 := bsn K3 [vi ki 0, vi ki x] 111
 have lt3_0 := (bo1 K3).1
 have lt3_1 := (bo2 K3).1
 have lt3_2 := (bo3 K3).1
 go_upto_region 7 with fail
 refine bs_to Mz3 ?_
 clear c3_0_0 c3_0_1 c3_1_0 c3_1_1 c3_2_0 c3_2_1
 intro W4 K4
 clear Mz3 K3
 obtain ⟨c4_0_0, c4_0_1⟩ := (bo1 K4).c2
 obtain ⟨c4_1_0, c4_1_1⟩ := (bo2 K4).c2
 obtain ⟨c4_2_0, c4_2_1⟩ := (bo3 K4).c2
 obtain ⟨z4_2_0, z4_2_1⟩ := (bo3 K4).f2
 obtain ⟨c4_3_0, c4_3_1⟩ := (bo4 K4).c2
 have XF : Hid (Bx (W4.setCells (w.heap.size + 1) 0 [vi ki 0, vi ki 0]) (w.heap.size + 1) [vi ki 0, vi ki 0]) := (K4.out.at (w.heap.size + 1) [vi ki 0, vi ki 0] (by simp)).setAll _ rfl
 have BF : Hid (Below w.heap.size w (W4.setCells (w.heap.size + 1) 0 [vi ki 0, vi ki 0])) := below_setCells (by omega) _ _ _ K4.out.1
 have y0 := XF.out.c 0 rfl
 have y1 := XF.out.c 1 rfl
 simp only [World.setCells, Nat.zero_add] at y0 y1
 clear XF
 go_wp2
 exact bodyPost_ret (v := .tuple #[.agg #[vi ki 0, vi ki 0], vi ki e]) (by simp [results, Tryz.results58, go_sem, y0, y1]) rfl ⟨rfl, BF.out⟩
theorem bg_12 (u d us x v e : Int)
  (OF : Hid (∀ w : World, Cvl.Lens w → Calls Tryz.prog 97 #[.agg #[vi ki 0, vi ki u]] w fun r' w' => r' = zr (.tuple #[.agg #[vi ki 0, vi ki d], vi ki us, vi ki 0]) ∧ Below w.heap.size w w'))
  (FD : Hid (∀ w : World, Cvl.Lens w → Calls Tryz.prog 109 #[vi ki 12, .agg #[vi ki 0, vi ki d]] w fun r' w' => r' = zr (.tuple #[.agg #[vi ki 0, vi ki x], vi ki 0]) ∧ Below w.heap.size w w'))
  (SA : Hid (∀ w : World, Cvl.Lens w → Calls Tryz.prog 110 #[.agg #[vi ki 0, vi ki x]] w fun r' w' => r' = zr (.tuple #[.agg #[vi ki 0, vi ki v], vi ki e]) ∧ Below w.heap.size w w'))
  (w : World) (hL : Hid (∀ W : World, Below w.heap.size w W → Cvl.Lens W)) :
  Calls Tryz.prog 58 #[vi ki 12, .agg #[vi ki 0, vi ki u]] w fun r' w' => r' = zr (.tuple #[.agg #[vi ki 0, vi ki v], vi ki e]) ∧ Below w.heap.size w w' := by
 have K0 := bsn2 w [vi ki 0, vi ki u] 36 [vi ki 0, vi ki 0] 36
 go_enter Tryz.func58, Tryz.ntmps58
 go_wp2_with fail
 refine (OF.out _ (hL.out _ K0.out.1)).mono ?_
 rintro e W1 ⟨rfl, hb⟩
 have K1 := bsb K0 hb
 clear hb K0
 obtain ⟨c1_0_0, c1_0_1⟩ := (bo1 K1).c2
 obtain ⟨c1_1_0, c1_1_1⟩ := (bo2 K1).c2
 have Mz1 := bsn K1 [vi ki 0, vi ki d] 111
 have lt1_0 := (bo1 K1).1
 have lt1_1 := (bo2 K1).1
 go_upto_region 4 with fail
 refine bs_to Mz1 ?_
 clear c1_0_0 c1_0_1 c1_1_0 c1_1_1
 intro W2 K2
 clear Mz1 K1
 obtain ⟨c2_0_0, c2_0_1⟩ := (bo1 K2).c2
 obtain ⟨c2_1_0, c2_1_1⟩ := (bo2 K2).c2
 obtain ⟨c2_2_0, c2_2_1⟩ := (bo3 K2).c2
 go_wp2_with fail
 refine (FD.out _ (hL.out _ K2.out.1)).mono ?_
 rintro e W3 ⟨rfl, hb⟩
 have K3 := bsb K2 hb
 clear c2_0_0 c2_0_1 c2_1_0 c2_1_1 c2_2_0 c2_2_1
 clear hb K2
 obtain ⟨c3_0_0, c3_0_1⟩ := (bo1 K3).c2
 obtain ⟨c3_1_0, c3_1_1⟩ := (bo2 K3).c2
 obtain ⟨c3_2_0, c3_2_1⟩ := (bo3 K3).c2
 have Mz3 := bsn K3 [vi ki 0, vi ki x] 111
 have lt3_0 := (bo1 K3).1
 have lt3_1 := (bo2 K3).1
 have lt3_2 := (bo3 K3).1
 go_upto_region 7 with fail
 refine bs_to Mz3 ?_
 clear c3_0_0 c3_0_1 c3_1_0 c3_1_1 c3_2_0 c3_2_1
 intro W4 K4
 clear Mz3 K3
 obtain ⟨c4_0_0, c4_0_1⟩ := (bo1 K4).c2
 obtain ⟨c4_1_0, c4_1_1⟩ := (bo2 K4).c2
 obtain ⟨c4_2_0, c4_2_1⟩ := (bo3 K4).c2
 obtain ⟨c4_3_0, c4_3_1⟩ := (bo4 K4).c2
 go_wp2_with fail
 refine (SA.out _ (hL.out _ K4.out.1)).mono ?_
 rintro e W5 ⟨rfl, hb⟩
 have K5 := bsb K4 hb
 clear c4_0_0 c4_0_1 c4_1_0 c4_1_1 c4_2_0 c4_2_1 c4_3_0 c4_3_1
 clear hb K4
 obtain ⟨c5_0_0, c5_0_1⟩ := (bo1 K5).c2
 obtain ⟨c5_1_0, c5_1_1⟩ := (bo2 K5).c2
 obtain ⟨c5_2_0, c5_2_1⟩ := (bo3 K5).c2
 obtain ⟨z5_2_0, z5_2_1⟩ := (bo3 K5).f2
 obtain ⟨c5_3_0, c5_3_1⟩ := (bo4 K5).c2
 have XF : Hid (Bx (W5.setCells (w.heap.size + 1) 0 [vi ki 0, vi ki v]) (w.heap.size + 1) [vi ki 0, vi ki v]) := (K5.out.at (w.heap.size + 1) [vi ki 0, vi ki 0] (by simp)).setAll _ rfl
 have BF : Hid (Below w.heap.size w (W5.setCells (w.heap.size + 1) 0 [vi ki 0, vi ki v])) := below_setCells (by omega) _ _ _ K5.out.1
 have y0 := XF.out.c 0 rfl
 have y1 := XF.out.c 1 rfl
 simp only [World.setCells, Nat.zero_add] at y0 y1
 clear XF
 go_wp2
 exact bodyPost_ret (v := .tuple #[.agg #[vi ki 0, vi ki v], vi ki e]) (by simp [results, Tryz.results58, go_sem, y0, y1]) rfl ⟨rfl, BF.out⟩
theorem tr_no (s : ByteArray) (i u : Int)
  (R : Hid (∀ w : World, Cvl.Lens w → Calls Tryz.prog 32 #[.agg #[vi ki i, vi ki u]] w fun r' w' => r' = zr (.bool false) ∧ Below w.heap.size w w'))
  (w : World) (hL : Hid (∀ W : World, Below w.heap.size w W → Cvl.Lens W)) :
  Calls Tryz.prog 24 #[.string s, .agg #[vi ki i, vi ki u]] w fun r' w' => r' = zr (.tuple #[.agg #[vi ki 0, vi ki 0], vi ki 1]) ∧ Below w.heap.size w w' := by
 have K0 := bsn2 w [vi ki i, vi ki u] 36 [vi ki 0, vi ki 0] 36
 go_enter Tryz.func24, Tryz.ntmps24
 go_wp2_with fail
 refine (R.out _ (hL.out _ K0.out.1)).mono ?_
 rintro e W1 ⟨rfl, hb⟩
 have K1 := bsb K0 hb
 clear hb K0
 obtain ⟨c1_0_0, c1_0_1⟩ := (bo1 K1).c2
 obtain ⟨z1_0_0, z1_0_1⟩ := (bo1 K1).f2
 obtain ⟨c1_1_0, c1_1_1⟩ := (bo2 K1).c2
 have XF : Hid (Bx (W1.setCells (w.heap.size + 1) 0 [vi ki 0, vi ki 0]) (w.heap.size + 1) [vi ki 0, vi ki 0]) := (K1.out.at (w.heap.size + 1) [vi ki 0, vi ki 0] (by simp)).setAll _ rfl
 have BF : Hid (Below w.heap.size w (W1.setCells (w.heap.size + 1) 0 [vi ki 0, vi ki 0])) := below_setCells (by omega) _ _ _ K1.out.1
 have y0 := XF.out.c 0 rfl
 have y1 := XF.out.c 1 rfl
 simp only [World.setCells, Nat.zero_add] at y0 y1
 clear XF
 go_wp2
 exact bodyPost_ret (v := .tuple #[.agg #[vi ki 0, vi ki 0], vi ki 1]) (by simp [results, Tryz.results24, go_sem, y0, y1]) rfl ⟨rfl, BF.out⟩
theorem tr_name (s : ByteArray) (i u f : Int)
  (R : Hid (∀ w : World, Cvl.Lens w → Calls Tryz.prog 32 #[.agg #[vi ki i, vi ki u]] w fun r' w' => r' = zr (.bool true) ∧ Below w.heap.size w w'))
  (NA : Hid (∀ w : World, Calls Tryz.prog 57 #[.string s, vi ki 12] w fun r' w' => r' = zr (.tuple #[vi ki f, .bool false]) ∧ Below w.heap.size w w'))
  (w : World) (hL : Hid (∀ W : World, Below w.heap.size w W → Cvl.Lens W)) :
  Calls Tryz.prog 24 #[.string s, .agg #[vi ki i, vi ki u]] w fun r' w' => r' = zr (.tuple #[.agg #[vi ki 0, vi ki 0], vi ki 23]) ∧ Below w.heap.size w w' := by
 have K0 := bsn2 w [vi ki i, vi ki u] 36 [vi ki 0, vi ki 0] 36
 go_enter Tryz.func24, Tryz.ntmps24
 go_wp2_with fail
 refine (R.out _ (hL.out _ K0.out.1)).mono ?_
 rintro e W1 ⟨rfl, hb⟩
 have K1 := bsb K0 hb
 clear hb K0
 obtain ⟨c1_0_0, c1_0_1⟩ := (bo1 K1).c2
 obtain ⟨c1_1_0, c1_1_1⟩ := (bo2 K1).c2
 go_wp2_with fail
 refine (NA.out _).mono ?_
 rintro e W2 ⟨rfl, hb⟩
 have K2 := bsb K1 hb
 clear c1_0_0 c1_0_1 c1_1_0 c1_1_1
 clear hb K1
 obtain ⟨c2_0_0, c2_0_1⟩ := (bo1 K2).c2
 obtain ⟨z2_0_0, z2_0_1⟩ := (bo1 K2).f2
 obtain ⟨c2_1_0, c2_1_1⟩ := (bo2 K2).c2
 have XF : Hid (Bx (W2.setCells (w.heap.size + 1) 0 [vi ki 0, vi ki 0]) (w.heap.size + 1) [vi ki 0, vi ki 0]) := (K2.out.at (w.heap.size + 1) [vi ki 0, vi ki 0] (by simp)).setAll _ rfl
 have BF : Hid (Below w.heap.size w (W2.setCells (w.heap.size + 1) 0 [vi ki 0, vi ki 0])) := below_setCells (by omega) _ _ _ K2.out.1
 have y0 := XF.out.c 0 rfl
 have y1 := XF.out.c 1 rfl
 simp only [World.setCells, Nat.zero_add] at y0 y1
 clear XF
 go_wp2
 exact bodyPost_ret (v := .tuple #[.agg #[vi ki 0, vi ki 0], vi ki 23]) (by simp [results, Tryz.results24, go_sem, y0, y1]) rfl ⟨rfl, BF.out⟩
theorem tr_ok (s : ByteArray) (i u f a v e : Int)
  (R : Hid (∀ w : World, Cvl.Lens w → Calls Tryz.prog 32 #[.agg #[vi ki i, vi ki u]] w fun r' w' => r' = zr (.bool true) ∧ Below w.heap.size w w'))
  (NA : Hid (∀ w : World, Calls Tryz.prog 57 #[.string s, vi ki 12] w fun r' w' => r' = zr (.tuple #[vi ki f, .bool true]) ∧ Below w.heap.size w w'))
  (w : World) (BG : Hid (∀ W : World, Below w.heap.size w W → Calls Tryz.prog 58 #[vi ki f, .agg #[vi ki i, vi ki u]] W fun r' w' => r' = zr (.tuple #[.agg #[vi ki a, vi ki v], vi ki e]) ∧ Below W.heap.size W w')) (hL : Hid (∀ W : World, Below w.heap.size w W → Cvl.Lens W)) :
  Calls Tryz.prog 24 #[.string s, .agg #[vi ki i, vi ki u]] w fun r' w' => r' = zr (.tuple #[.agg #[vi ki a, vi ki v], vi ki e]) ∧ Below w.heap.size w w' := by
 have K0 := bsn2 w [vi ki i, vi ki u] 36 [vi ki 0, vi ki 0] 36
 go_enter Tryz.func24, Tryz.ntmps24
 go_wp2_with fail
 refine (R.out _ (hL.out _ K0.out.1)).mono ?_
 rintro e W1 ⟨rfl, hb⟩
 have K1 := bsb K0 hb
 clear hb K0
 obtain ⟨c1_0_0, c1_0_1⟩ := (bo1 K1).c2
 obtain ⟨c1_1_0, c1_1_1⟩ := (bo2 K1).c2
 go_wp2_with fail
 refine (NA.out _).mono ?_
 rintro e W2 ⟨rfl, hb⟩
 have K2 := bsb K1 hb
 clear c1_0_0 c1_0_1 c1_1_0 c1_1_1
 clear hb K1
 obtain ⟨c2_0_0, c2_0_1⟩ := (bo1 K2).c2
 obtain ⟨c2_1_0, c2_1_1⟩ := (bo2 K2).c2
 go_wp2_with fail
 refine (BG.out _ K2.out.1).mono ?_
 rintro e W3 ⟨rfl, hb⟩
 have K3 := bsb K2 hb
 clear c2_0_0 c2_0_1 c2_1_0 c2_1_1
 clear hb K2
 obtain ⟨c3_0_0, c3_0_1⟩ := (bo1 K3).c2
 obtain ⟨z3_0_0, z3_0_1⟩ := (bo1 K3).f2
 obtain ⟨c3_1_0, c3_1_1⟩ := (bo2 K3).c2
 have XF : Hid (Bx (W3.setCells (w.heap.size + 1) 0 [vi ki a, vi ki v]) (w.heap.size + 1) [vi ki a, vi ki v]) := (K3.out.at (w.heap.size + 1) [vi ki 0, vi ki 0] (by simp)).setAll _ rfl
 have BF : Hid (Below w.heap.size w (W3.setCells (w.heap.size + 1) 0 [vi ki a, vi ki v])) := below_setCells (by omega) _ _ _ K3.out.1
 have y0 := XF.out.c 0 rfl
 have y1 := XF.out.c 1 rfl
 simp only [World.setCells, Nat.zero_add] at y0 y1
 clear XF
 go_wp2
 exact bodyPost_ret (v := .tuple #[.agg #[vi ki a, vi ki v], vi ki e]) (by simp [results, Tryz.results24, go_sem, y0, y1]) rfl ⟨rfl, BF.out⟩
end Go.Proofs.YtklehbmghjcmaaaGreatDoor
