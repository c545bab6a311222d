import Derived.Test.YtklehbmghjcmaaaGreatDoorSz
import Derived.Test.YtklehbmghjcmaaaGreatDoorS24
import Derived.Test.YtklehbmghjcmaaaGreatDoorS2
open Go.Value renaming int → vi
open Go.IntKind renaming i64 → ki
open List renaming setIfInBounds_toArray → zb, set_cons_zero → zc, set_cons_succ → zd
open Go.Act renaming put → za
open Go.Ending renaming returned → zr
set_option maxRecDepth 100000
set_option maxHeartbeats 16000000
set_option linter.unusedVariables false
namespace Go.Proofs.YtklehbmghjcmaaaGreatDoor
open Go.RowKit
theorem sub_err (i a b n e : Int) (ka : Value) (he : e ≠ 0)
  (R : Hid (∀ w : World, Cvl.Lens w → Calls Tryz.prog 32 #[.agg #[vi ki i, vi ki a]] w fun r' w' => r' = zr (.bool true) ∧ Below w.heap.size w w'))
  (R2 : Hid (∀ w : World, Cvl.Lens w → Calls Tryz.prog 32 #[.agg #[vi ki 0, vi ki b]] w fun r' w' => r' = zr (.bool true) ∧ Below w.heap.size w w'))
  (KA : Hid (∀ w : World, Calls Tryz.prog 46 #[vi ki i] w fun r' w' => r' = zr (ka) ∧ Below w.heap.size w w'))
  (KB : Hid (∀ w : World, Calls Tryz.prog 46 #[vi ki 0] w fun r' w' => r' = zr (.iface 145 (.agg #[])) ∧ Below w.heap.size w w'))
  (TN : Hid (∀ w : World, Calls Tryz.prog 263 #[.agg #[]] w fun r' w' => r' = zr (.iface 145 (.agg #[])) ∧ Below w.heap.size w w'))
  (TG : Hid (∀ w : World, Calls Tryz.prog 45 #[ka, .iface 145 (.agg #[])] w fun r' w' => r' = zr (.tuple #[vi ki 0, vi ki 0]) ∧ Below w.heap.size w w'))
  (NS : Hid (∀ w : World, Calls Tryz.prog 115 #[vi ki a, vi ki b] w fun r' w' => r' = zr (.tuple #[vi ki n, vi ki e]) ∧ w' = w))
  (w : World) (hL : Hid (∀ W : World, Below w.heap.size w W → Cvl.Lens W)) :
  Calls Tryz.prog 91 #[.agg #[vi ki i, vi ki a], .agg #[vi ki 0, vi ki b]] w fun r' w' => r' = zr (.tuple #[.agg #[vi ki 0, vi ki 0, vi ki 0, vi ki 0], vi ki e]) ∧ Below w.heap.size w w' := by
 have hE : ∀ args w, (callFunc 263 args).run Tryz.prog w = .ok (.enter 263 args) w := enters_of Tryz.func263 (by kernel_rfl) rfl
 have e1 : (e != 0) = true := bne_iff_ne.2 he
 have K0 := bsn3 w [vi ki i, vi ki a] 36 [vi ki 0, vi ki b] 36 [vi ki 0, vi ki 0, vi ki 0, vi ki 0] 59
 go_enter Tryz.func91, Tryz.ntmps91
 go_wp2_with fail
 refine (R.out _ (hL.out _ K0.out.1)).mono ?_
 rintro e W1 ⟨rfl, hb⟩
 have K1 := bsb K0 hb
 clear hb K0
 obtain ⟨c1_0_0, c1_0_1, c1_0_2, c1_0_3⟩ := (bo1 K1).c4
 obtain ⟨c1_1_0, c1_1_1⟩ := (bo2 K1).c2
 obtain ⟨c1_2_0, c1_2_1⟩ := (bo3 K1).c2
 go_wp2_with fail
 refine (R2.out _ (hL.out _ K1.out.1)).mono ?_
 rintro e W2 ⟨rfl, hb⟩
 have K2 := bsb K1 hb
 clear c1_0_0 c1_0_1 c1_0_2 c1_0_3 c1_1_0 c1_1_1 c1_2_0 c1_2_1
 clear hb K1
 obtain ⟨c2_0_0, c2_0_1, c2_0_2, c2_0_3⟩ := (bo1 K2).c4
 obtain ⟨c2_1_0, c2_1_1⟩ := (bo2 K2).c2
 obtain ⟨c2_2_0, c2_2_1⟩ := (bo3 K2).c2
 go_wp2_with fail
 go_cut [6, 7] (fun v0 v1 wx => v0 = vi ki 0 ∧ v1 = vi ki 0 ∧ Hid (BS w [(w.heap.size + 2, [vi ki 0, vi ki 0, vi ki 0, vi ki 0]), (w.heap.size + 1, [vi ki 0, vi ki b]), (w.heap.size, [vi ki i, vi ki a])] wx))
 case first =>
  refine wp_region_held_drew (S := BS w [(w.heap.size + 2, [vi ki 0, vi ki 0, vi ki 0, vi ki 0]), (w.heap.size + 1, [vi ki 0, vi ki b]), (w.heap.size, [vi ki i, vi ki a])]) (by kernel_rfl) K2.out.drew (fun hHeld => ?_)
  refine tks 0 ⟨some 20, _, _, _, _, none⟩ rfl ?_
  simp only [za, zb, zc, zd]
  refine tk (v := ?_) 1 ⟨some 21, _, _, _, _, none⟩ rfl ?_ ?_
  case refine_2 => (intro w9 hSw; obtain ⟨l0_0, l0_1, l0_2, l0_3⟩ := (hSw.at (w.heap.size + 2) [vi ki 0, vi ki 0, vi ki 0, vi ki 0] (by simp)).c4; obtain ⟨l1_0, l1_1⟩ := (hSw.at (w.heap.size + 1) [vi ki 0, vi ki b] (by simp)).c2; obtain ⟨l2_0, l2_1⟩ := (hSw.at (w.heap.size) [vi ki i, vi ki a] (by simp)).c2; clear hSw; go_simp; try with_reducible rfl)
  simp only [za, zb, zc, zd]
  refine tks 3 ⟨some 23, _, _, _, _, none⟩ rfl ?_
  simp only [za, zb, zc, zd]
  refine tk (v := ?_) 4 ⟨some 24, _, _, _, _, none⟩ rfl ?_ ?_
  case refine_2 => (intro w9 hSw; obtain ⟨l0_0, l0_1, l0_2, l0_3⟩ := (hSw.at (w.heap.size + 2) [vi ki 0, vi ki 0, vi ki 0, vi ki 0] (by simp)).c4; obtain ⟨l1_0, l1_1⟩ := (hSw.at (w.heap.size + 1) [vi ki 0, vi ki b] (by simp)).c2; obtain ⟨l2_0, l2_1⟩ := (hSw.at (w.heap.size) [vi ki i, vi ki a] (by simp)).c2; clear hSw; go_simp; try with_reducible rfl)
  simp only [za, zb, zc, zd]
  refine rd 2 ⟨some 22, _, _, _, _, none⟩ rfl (fun K hK => ?_)
  go_simp
  refine (KA.out _).mono ?_
  rintro e v1 ⟨rfl, hb1⟩
  refine hK.out _ _ (hHeld.below hb1) (fun hHeld => ?_)
  clear hK K hb1
  refine rd 5 ⟨some 25, _, _, _, _, none⟩ rfl (fun K hK => ?_)
  go_simp
  refine (KB.out _).mono ?_
  rintro e v2 ⟨rfl, hb2⟩
  refine hK.out _ _ (hHeld.below hb2) (fun hHeld => ?_)
  clear hK K hb2
  refine rd 6 ⟨some 26, _, _, _, _, none⟩ rfl (fun K hK => ?_)
  go_simp
  refine (TN.out _).mono ?_
  rintro e v3 ⟨rfl, hb3⟩
  refine hK.out _ _ (hHeld.below hb3) (fun hHeld => ?_)
  clear hK K hb3
  refine rd 7 ⟨some 27, _, _, _, _, none⟩ rfl (fun K hK => ?_)
  go_simp
  refine (TG.out _).mono ?_
  rintro e v4 ⟨rfl, hb4⟩
  refine hK.out _ _ (hHeld.below hb4) (fun hHeld => ?_)
  clear hK K hb4
  refine tks 8 ⟨some 19, _, _, _, _, none⟩ rfl ?_
  simp only [za, zb, zc, zd]
  refine tks 9 ⟨some 28, _, _, _, _, none⟩ rfl ?_
  simp only [za, zb, zc, zd]
  refine tks 10 ⟨some 29, _, _, _, _, none⟩ rfl ?_
  simp only [za, zb, zc, zd]
  refine tks 11 ⟨some 6, _, _, _, _, none⟩ rfl ?_
  simp only [za, zb, zc, zd]
  refine tks 12 ⟨some 7, _, _, _, _, none⟩ rfl ?_
  simp only [za, zb, zc, zd]
  refine wpAnyH_done (by kernel_rfl) ?_ _
  go_wp2_with fail
  go_meet
  case rel => exact ⟨rfl, rfl, hHeld⟩
 case rest =>
  clear c2_0_0 c2_0_1 c2_0_2 c2_0_3 c2_1_0 c2_1_1 c2_2_0 c2_2_1
  obtain ⟨rfl, rfl, K3⟩ := hcut
  clear K2
  skip
  obtain ⟨c3_0_0, c3_0_1, c3_0_2, c3_0_3⟩ := (bo1 K3).c4
  obtain ⟨c3_1_0, c3_1_1⟩ := (bo2 K3).c2
  obtain ⟨c3_2_0, c3_2_1⟩ := (bo3 K3).c2
  go_wp2_with fail
  refine (NS.out _).mono ?_
  rintro e W4 ⟨rfl, hw⟩
  rw [hw]
  clear hw W4
  clear c3_0_0 c3_0_1 c3_0_2 c3_0_3 c3_1_0 c3_1_1 c3_2_0 c3_2_1
  obtain ⟨c4_0_0, c4_0_1, c4_0_2, c4_0_3⟩ := (bo1 K3).c4
  obtain ⟨z4_0_0, z4_0_1, z4_0_2, z4_0_3⟩ := (bo1 K3).f4
  obtain ⟨c4_1_0, c4_1_1⟩ := (bo2 K3).c2
  obtain ⟨c4_2_0, c4_2_1⟩ := (bo3 K3).c2
  have XF : Hid (Bx (wc.setCells (w.heap.size + 2) 0 [vi ki 0, vi ki 0, vi ki 0, vi ki 0]) (w.heap.size + 2) [vi ki 0, vi ki 0, vi ki 0, vi ki 0]) := (K3.out.at (w.heap.size + 2) [vi ki 0, vi ki 0, vi ki 0, vi ki 0] (by simp)).setAll _ rfl
  have BF : Hid (Below w.heap.size w (wc.setCells (w.heap.size + 2) 0 [vi ki 0, vi ki 0, vi ki 0, vi ki 0])) := below_setCells (by omega) _ _ _ K3.out.1
  have y0 := XF.out.c 0 rfl
  have y1 := XF.out.c 1 rfl
  have y2 := XF.out.c 2 rfl
  have y3 := XF.out.c 3 rfl
  simp only [World.setCells, Nat.zero_add, Nat.reduceAdd] at y0 y1 y2 y3
  clear XF
  go_wp2
  exact bodyPost_ret (v := .tuple #[.agg #[vi ki 0, vi ki 0, vi ki 0, vi ki 0], vi ki e]) (by simp [results, Tryz.results91, go_sem, y0, y1, y2, y3]) rfl ⟨rfl, BF.out⟩
theorem sub_ok (i a b n nq nr m1 d1 u1 E : Int) (hq : wrap64 (n.tdiv 86400000000) = nq) (hr : n.tmod 86400000000 = nr) (ka : Value)
  (R : Hid (∀ w : World, Cvl.Lens w → Calls Tryz.prog 32 #[.agg #[vi ki i, vi ki a]] w fun r' w' => r' = zr (.bool true) ∧ Below w.heap.size w w'))
  (R2 : Hid (∀ w : World, Cvl.Lens w → Calls Tryz.prog 32 #[.agg #[vi ki 0, vi ki b]] w fun r' w' => r' = zr (.bool true) ∧ Below w.heap.size w w'))
  (KA : Hid (∀ w : World, Calls Tryz.prog 46 #[vi ki i] w fun r' w' => r' = zr (ka) ∧ Below w.heap.size w w'))
  (KB : Hid (∀ w : World, Calls Tryz.prog 46 #[vi ki 0] w fun r' w' => r' = zr (.iface 145 (.agg #[])) ∧ Below w.heap.size w w'))
  (TN : Hid (∀ w : World, Calls Tryz.prog 263 #[.agg #[]] w fun r' w' => r' = zr (.iface 145 (.agg #[])) ∧ Below w.heap.size w w'))
  (TG : Hid (∀ w : World, Calls Tryz.prog 45 #[ka, .iface 145 (.agg #[])] w fun r' w' => r' = zr (.tuple #[vi ki 0, vi ki 0]) ∧ Below w.heap.size w w'))
  (NS : Hid (∀ w : World, Calls Tryz.prog 115 #[vi ki a, vi ki b] w fun r' w' => r' = zr (.tuple #[vi ki n, vi ki 0]) ∧ w' = w))
  (MK : Hid (∀ w : World, Calls Tryz.prog 137 #[vi ki 0, vi ki nq, vi ki nr] w fun r' w' => r' = zr (.tuple #[.agg #[vi ki 0, vi ki m1, vi ki d1, vi ki u1], vi ki E]) ∧ Below w.heap.size w w'))
  (w : World) (hL : Hid (∀ W : World, Below w.heap.size w W → Cvl.Lens W)) :
  Calls Tryz.prog 91 #[.agg #[vi ki i, vi ki a], .agg #[vi ki 0, vi ki b]] w fun r' w' => r' = zr (.tuple #[.agg #[vi ki 0, vi ki m1, vi ki d1, vi ki u1], vi ki E]) ∧ Below w.heap.size w w' := by
 have hE : ∀ args w, (callFunc 263 args).run Tryz.prog w = .ok (.enter 263 args) w := enters_of Tryz.func263 (by kernel_rfl) rfl
 have K0 := bsn3 w [vi ki i, vi ki a] 36 [vi ki 0, vi ki b] 36 [vi ki 0, vi ki 0, vi ki 0, vi ki 0] 59
 go_enter Tryz.func91, Tryz.ntmps91
 go_wp2_with fail
 refine (R.out _ (hL.out _ K0.out.1)).mono ?_
 rintro e W1 ⟨rfl, hb⟩
 have K1 := bsb K0 hb
 clear hb K0
 obtain ⟨c1_0_0, c1_0_1, c1_0_2, c1_0_3⟩ := (bo1 K1).c4
 obtain ⟨c1_1_0, c1_1_1⟩ := (bo2 K1).c2
 obtain ⟨c1_2_0, c1_2_1⟩ := (bo3 K1).c2
 go_wp2_with fail
 refine (R2.out _ (hL.out _ K1.out.1)).mono ?_
 rintro e W2 ⟨rfl, hb⟩
 have K2 := bsb K1 hb
 clear c1_0_0 c1_0_1 c1_0_2 c1_0_3 c1_1_0 c1_1_1 c1_2_0 c1_2_1
 clear hb K1
 obtain ⟨c2_0_0, c2_0_1, c2_0_2, c2_0_3⟩ := (bo1 K2).c4
 obtain ⟨c2_1_0, c2_1_1⟩ := (bo2 K2).c2
 obtain ⟨c2_2_0, c2_2_1⟩ := (bo3 K2).c2
 go_wp2_with fail
 go_cut [6, 7] (fun v0 v1 wx => v0 = vi ki 0 ∧ v1 = vi ki 0 ∧ Hid (BS w [(w.heap.size + 2, [vi ki 0, vi ki 0, vi ki 0, vi ki 0]), (w.heap.size + 1, [vi ki 0, vi ki b]), (w.heap.size, [vi ki i, vi ki a])] wx))
 case first =>
  refine wp_region_held_drew (S := BS w [(w.heap.size + 2, [vi ki 0, vi ki 0, vi ki 0, vi ki 0]), (w.heap.size + 1, [vi ki 0, vi ki b]), (w.heap.size, [vi ki i, vi ki a])]) (by kernel_rfl) K2.out.drew (fun hHeld => ?_)
  refine tks 0 ⟨some 20, _, _, _, _, none⟩ rfl ?_
  simp only [za, zb, zc, zd]
  refine tk (v := ?_) 1 ⟨some 21, _, _, _, _, none⟩ rfl ?_ ?_
  case refine_2 => (intro w9 hSw; obtain ⟨l0_0, l0_1, l0_2, l0_3⟩ := (hSw.at (w.heap.size + 2) [vi ki 0, vi ki 0, vi ki 0, vi ki 0] (by simp)).c4; obtain ⟨l1_0, l1_1⟩ := (hSw.at (w.heap.size + 1) [vi ki 0, vi ki b] (by simp)).c2; obtain ⟨l2_0, l2_1⟩ := (hSw.at (w.heap.size) [vi ki i, vi ki a] (by simp)).c2; clear hSw; go_simp; try with_reducible rfl)
  simp only [za, zb, zc, zd]
  refine tks 3 ⟨some 23, _, _, _, _, none⟩ rfl ?_
  simp only [za, zb, zc, zd]
  refine tk (v := ?_) 4 ⟨some 24, _, _, _, _, none⟩ rfl ?_ ?_
  case refine_2 => (intro w9 hSw; obtain ⟨l0_0, l0_1, l0_2, l0_3⟩ := (hSw.at (w.heap.size + 2) [vi ki 0, vi ki 0, vi ki 0, vi ki 0] (by simp)).c4; obtain ⟨l1_0, l1_1⟩ := (hSw.at (w.heap.size + 1) [vi ki 0, vi ki b] (by simp)).c2; obtain ⟨l2_0, l2_1⟩ := (hSw.at (w.heap.size) [vi ki i, vi ki a] (by simp)).c2; clear hSw; go_simp; try with_reducible rfl)
  simp only [za, zb, zc, zd]
  refine rd 2 ⟨some 22, _, _, _, _, none⟩ rfl (fun K hK => ?_)
  go_simp
  refine (KA.out _).mono ?_
  rintro e v1 ⟨rfl, hb1⟩
  refine hK.out _ _ (hHeld.below hb1) (fun hHeld => ?_)
  clear hK K hb1
  refine rd 5 ⟨some 25, _, _, _, _, none⟩ rfl (fun K hK => ?_)
  go_simp
  refine (KB.out _).mono ?_
  rintro e v2 ⟨rfl, hb2⟩
  refine hK.out _ _ (hHeld.below hb2) (fun hHeld => ?_)
  clear hK K hb2
  refine rd 6 ⟨some 26, _, _, _, _, none⟩ rfl (fun K hK => ?_)
  go_simp
  refine (TN.out _).mono ?_
  rintro e v3 ⟨rfl, hb3⟩
  refine hK.out _ _ (hHeld.below hb3) (fun hHeld => ?_)
  clear hK K hb3
  refine rd 7 ⟨some 27, _, _, _, _, none⟩ rfl (fun K hK => ?_)
  go_simp
  refine (TG.out _).mono ?_
  rintro e v4 ⟨rfl, hb4⟩
  refine hK.out _ _ (hHeld.below hb4) (fun hHeld => ?_)
  clear hK K hb4
  refine tks 8 ⟨some 19, _, _, _, _, none⟩ rfl ?_
  simp only [za, zb, zc, zd]
  refine tks 9 ⟨some 28, _, _, _, _, none⟩ rfl ?_
  simp only [za, zb, zc, zd]
  refine tks 10 ⟨some 29, _, _, _, _, none⟩ rfl ?_
  simp only [za, zb, zc, zd]
  refine tks 11 ⟨some 6, _, _, _, _, none⟩ rfl ?_
  simp only [za, zb, zc, zd]
  refine tks 12 ⟨some 7, _, _, _, _, none⟩ rfl ?_
  simp only [za, zb, zc, zd]
  refine wpAnyH_done (by kernel_rfl) ?_ _
  go_wp2_with fail
  go_meet
  case rel => exact ⟨rfl, rfl, hHeld⟩
 case rest =>
  clear c2_0_0 c2_0_1 c2_0_2 c2_0_3 c2_1_0 c2_1_1 c2_2_0 c2_2_1
  obtain ⟨rfl, rfl, K3⟩ := hcut
  clear K2
  skip
  obtain ⟨c3_0_0, c3_0_1, c3_0_2, c3_0_3⟩ := (bo1 K3).c4
  obtain ⟨c3_1_0, c3_1_1⟩ := (bo2 K3).c2
  obtain ⟨c3_2_0, c3_2_1⟩ := (bo3 K3).c2
  go_wp2_with fail
  refine (NS.out _).mono ?_
  rintro e W4 ⟨rfl, hw⟩
  rw [hw]
  clear hw W4
  go_wp2_with fail
  refine (MK.out _).mono ?_
  rintro e W5 ⟨rfl, hb⟩
  have K5 := bsb K3 hb
  clear c3_0_0 c3_0_1 c3_0_2 c3_0_3 c3_1_0 c3_1_1 c3_2_0 c3_2_1
  clear hb K3
  obtain ⟨c5_0_0, c5_0_1, c5_0_2, c5_0_3⟩ := (bo1 K5).c4
  obtain ⟨z5_0_0, z5_0_1, z5_0_2, z5_0_3⟩ := (bo1 K5).f4
  obtain ⟨c5_1_0, c5_1_1⟩ := (bo2 K5).c2
  obtain ⟨c5_2_0, c5_2_1⟩ := (bo3 K5).c2
  have XF : Hid (Bx (W5.setCells (w.heap.size + 2) 0 [vi ki 0, vi ki m1, vi ki d1, vi ki u1]) (w.heap.size + 2) [vi ki 0, vi ki m1, vi ki d1, vi ki u1]) := (K5.out.at (w.heap.size + 2) [vi ki 0, vi ki 0, vi ki 0, vi ki 0] (by simp)).setAll _ rfl
  have BF : Hid (Below w.heap.size w (W5.setCells (w.heap.size + 2) 0 [vi ki 0, vi ki m1, vi ki d1, vi ki u1])) := below_setCells (by omega) _ _ _ K5.out.1
  have y0 := XF.out.c 0 rfl
  have y1 := XF.out.c 1 rfl
  have y2 := XF.out.c 2 rfl
  have y3 := XF.out.c 3 rfl
  simp only [World.setCells, Nat.zero_add, Nat.reduceAdd] at y0 y1 y2 y3
  clear XF
  go_wp2
  exact bodyPost_ret (v := .tuple #[.agg #[vi ki 0, vi ki m1, vi ki d1, vi ki u1], vi ki E]) (by simp [results, Tryz.results91, go_sem, y0, y1, y2, y3]) rfl ⟨rfl, BF.out⟩
theorem gone_le (a b p q X c X2 d1 u1 m2 d2 u2 E : Int) (p1 : -100000000 ≤ p) (p2 : p ≤ 100000000) (q1 : -100000000 ≤ q) (q2 : q ≤ 100000000) (hc : ¬ 0 < c)
  (MA : Hid (∀ w : World, Cvl.Lens w → Calls Tryz.prog 138 #[.agg #[vi ki 0, vi ki a]] w fun r' w' => r' = zr (vi ki p) ∧ Below w.heap.size w w'))
  (MB : Hid (∀ w : World, Cvl.Lens w → Calls Tryz.prog 138 #[.agg #[vi ki 0, vi ki b]] w fun r' w' => r' = zr (vi ki q) ∧ Below w.heap.size w w'))
  (AA : Hid (∀ w : World, Cvl.Lens w → Calls Tryz.prog 17 #[.agg #[vi ki 0, vi ki b], .agg #[vi ki 0, vi ki (p - q), vi ki 0, vi ki 0]] w fun r' w' => r' = zr (.tuple #[.agg #[vi ki 0, vi ki X], vi ki 0]) ∧ Below w.heap.size w w'))
  (CC : Hid (∀ w : World, Cvl.Lens w → Calls Tryz.prog 92 #[.agg #[vi ki 0, vi ki X], .agg #[vi ki 0, vi ki a]] w fun r' w' => r' = zr (vi ki c) ∧ Below w.heap.size w w'))
  (SB : Hid (∀ w : World, Cvl.Lens w → Calls Tryz.prog 91 #[.agg #[vi ki 0, vi ki a], .agg #[vi ki 0, vi ki X]] w fun r' w' => r' = zr (.tuple #[.agg #[vi ki 0, vi ki 0, vi ki d1, vi ki u1], vi ki 0]) ∧ Below w.heap.size w w'))
  (MK : Hid (∀ w : World, Calls Tryz.prog 137 #[vi ki (p - q), vi ki d1, vi ki u1] w fun r' w' => r' = zr (.tuple #[.agg #[vi ki 0, vi ki m2, vi ki d2, vi ki u2], vi ki E]) ∧ Below w.heap.size w w'))
  (w : World) (hL : Hid (∀ W : World, Below w.heap.size w W → Cvl.Lens W)) :
  Calls Tryz.prog 93 #[.agg #[vi ki 0, vi ki a], .agg #[vi ki 0, vi ki b]] w fun r' w' => r' = zr (.tuple #[.agg #[vi ki 0, vi ki m2, vi ki d2, vi ki u2], vi ki E]) ∧ Below w.heap.size w w' := by
 have hwr : IntKind.i64.wrap (p - q) = p - q := by rw [IntKind.wrap_i64]; omega
 have K0 := bsn3 w [vi ki 0, vi ki a] 36 [vi ki 0, vi ki b] 36 [vi ki 0, vi ki 0, vi ki 0, vi ki 0] 59
 go_enter Tryz.func93, Tryz.ntmps93
 go_wp2_with fail
 go_cut [6] (fun v0 wx => v0 = vi ki (p - q) ∧ Hid (BS w [(w.heap.size + 2, [vi ki 0, vi ki 0, vi ki 0, vi ki 0]), (w.heap.size + 1, [vi ki 0, vi ki b]), (w.heap.size, [vi ki 0, vi ki a])] wx))
 case first =>
  refine wp_region_held_drew (S := BS w [(w.heap.size + 2, [vi ki 0, vi ki 0, vi ki 0, vi ki 0]), (w.heap.size + 1, [vi ki 0, vi ki b]), (w.heap.size, [vi ki 0, vi ki a])]) (by kernel_rfl) K0.out.drew (fun hHeld => ?_)
  refine tk (v := ?_) 0 ⟨some 10, _, _, _, _, none⟩ rfl ?_ ?_
  case refine_2 => (intro w9 hSw; obtain ⟨l0_0, l0_1, l0_2, l0_3⟩ := (hSw.at (w.heap.size + 2) [vi ki 0, vi ki 0, vi ki 0, vi ki 0] (by simp)).c4; obtain ⟨l1_0, l1_1⟩ := (hSw.at (w.heap.size + 1) [vi ki 0, vi ki b] (by simp)).c2; obtain ⟨l2_0, l2_1⟩ := (hSw.at (w.heap.size) [vi ki 0, vi ki a] (by simp)).c2; clear hSw; go_simp; try with_reducible rfl)
  simp only [za, zb, zc, zd]
  refine tk (v := ?_) 2 ⟨some 12, _, _, _, _, none⟩ rfl ?_ ?_
  case refine_2 => (intro w9 hSw; obtain ⟨l0_0, l0_1, l0_2, l0_3⟩ := (hSw.at (w.heap.size + 2) [vi ki 0, vi ki 0, vi ki 0, vi ki 0] (by simp)).c4; obtain ⟨l1_0, l1_1⟩ := (hSw.at (w.heap.size + 1) [vi ki 0, vi ki b] (by simp)).c2; obtain ⟨l2_0, l2_1⟩ := (hSw.at (w.heap.size) [vi ki 0, vi ki a] (by simp)).c2; clear hSw; go_simp; try with_reducible rfl)
  simp only [za, zb, zc, zd]
  refine rd 1 ⟨some 11, _, _, _, _, none⟩ rfl (fun K hK => ?_)
  go_simp
  refine (MA.out _ (hL.out _ hHeld.1)).mono ?_
  rintro e v1 ⟨rfl, hb1⟩
  refine hK.out _ _ (hHeld.below hb1) (fun hHeld => ?_)
  clear hK K hb1
  refine rd 3 ⟨some 13, _, _, _, _, none⟩ rfl (fun K hK => ?_)
  go_simp
  refine (MB.out _ (hL.out _ hHeld.1)).mono ?_
  rintro e v2 ⟨rfl, hb2⟩
  refine hK.out _ _ (hHeld.below hb2) (fun hHeld => ?_)
  clear hK K hb2
  refine tks 4 ⟨some 14, _, _, _, _, none⟩ rfl ?_
  simp only [za, zb, zc, zd]
  refine tks 5 ⟨some 6, _, _, _, _, none⟩ rfl ?_
  simp only [za, zb, zc, zd]
  refine wpAnyH_done (by kernel_rfl) ?_ _
  go_wp2_with fail
  go_meet
  case rel => exact ⟨rfl, hHeld⟩
 case rest =>
  obtain ⟨rfl, K1⟩ := hcut
  clear K0
  skip
  obtain ⟨c1_0_0, c1_0_1, c1_0_2, c1_0_3⟩ := (bo1 K1).c4
  obtain ⟨c1_1_0, c1_1_1⟩ := (bo2 K1).c2
  obtain ⟨c1_2_0, c1_2_1⟩ := (bo3 K1).c2
  go_wp2_with fail
  refine (AA.out _ (hL.out _ K1.out.1)).mono ?_
  rintro e W2 ⟨rfl, hb⟩
  have K2 := bsb K1 hb
  clear c1_0_0 c1_0_1 c1_0_2 c1_0_3 c1_1_0 c1_1_1 c1_2_0 c1_2_1
  clear hb K1
  obtain ⟨c2_0_0, c2_0_1, c2_0_2, c2_0_3⟩ := (bo1 K2).c4
  obtain ⟨c2_1_0, c2_1_1⟩ := (bo2 K2).c2
  obtain ⟨c2_2_0, c2_2_1⟩ := (bo3 K2).c2
  have Mz2 := bsn K2 [vi ki 0, vi ki X] 36
  have lt2_0 := (bo1 K2).1
  have lt2_1 := (bo2 K2).1
  have lt2_2 := (bo3 K2).1
  go_upto_region 3 with fail
  refine bs_to Mz2 ?_
  clear c2_0_0 c2_0_1 c2_0_2 c2_0_3 c2_1_0 c2_1_1 c2_2_0 c2_2_1
  intro W3 K3
  clear Mz2 K2
  obtain ⟨c3_0_0, c3_0_1⟩ := (bo1 K3).c2
  obtain ⟨c3_1_0, c3_1_1, c3_1_2, c3_1_3⟩ := (bo2 K3).c4
  obtain ⟨c3_2_0, c3_2_1⟩ := (bo3 K3).c2
  obtain ⟨c3_3_0, c3_3_1⟩ := (bo4 K3).c2
  go_wp2_with fail
  refine (CC.out _ (hL.out _ K3.out.1)).mono ?_
  rintro e W4 ⟨rfl, hb⟩
  have K4 := bsb K3 hb
  clear c3_0_0 c3_0_1 c3_1_0 c3_1_1 c3_1_2 c3_1_3 c3_2_0 c3_2_1 c3_3_0 c3_3_1
  clear hb K3
  obtain ⟨c4_0_0, c4_0_1⟩ := (bo1 K4).c2
  obtain ⟨c4_1_0, c4_1_1, c4_1_2, c4_1_3⟩ := (bo2 K4).c4
  obtain ⟨c4_2_0, c4_2_1⟩ := (bo3 K4).c2
  obtain ⟨c4_3_0, c4_3_1⟩ := (bo4 K4).c2
  go_wp2_with fail
  refine (SB.out _ (hL.out _ K4.out.1)).mono ?_
  rintro e W5 ⟨rfl, hb⟩
  have K5 := bsb K4 hb
  clear c4_0_0 c4_0_1 c4_1_0 c4_1_1 c4_1_2 c4_1_3 c4_2_0 c4_2_1 c4_3_0 c4_3_1
  clear hb K4
  obtain ⟨c5_0_0, c5_0_1⟩ := (bo1 K5).c2
  obtain ⟨c5_1_0, c5_1_1, c5_1_2, c5_1_3⟩ := (bo2 K5).c4
  obtain ⟨c5_2_0, c5_2_1⟩ := (bo3 K5).c2
  obtain ⟨c5_3_0, c5_3_1⟩ := (bo4 K5).c2
  have Mz5 := bsn K5 [vi ki 0, vi ki 0, vi ki d1, vi ki u1] 59
  have lt5_0 := (bo1 K5).1
  have lt5_1 := (bo2 K5).1
  have lt5_2 := (bo3 K5).1
  have lt5_3 := (bo4 K5).1
  go_upto_region 11 with fail
  refine bs_to Mz5 ?_
  clear c5_0_0 c5_0_1 c5_1_0 c5_1_1 c5_1_2 c5_1_3 c5_2_0 c5_2_1 c5_3_0 c5_3_1
  intro W6 K6
  clear Mz5 K5
  obtain ⟨c6_0_0, c6_0_1, c6_0_2, c6_0_3⟩ := (bo1 K6).c4
  obtain ⟨c6_1_0, c6_1_1⟩ := (bo2 K6).c2
  obtain ⟨c6_2_0, c6_2_1, c6_2_2, c6_2_3⟩ := (bo3 K6).c4
  obtain ⟨c6_3_0, c6_3_1⟩ := (bo4 K6).c2
  obtain ⟨c6_4_0, c6_4_1⟩ := (bo5 K6).c2
  go_wp2_with fail
  refine (MK.out _).mono ?_
  rintro e W7 ⟨rfl, hb⟩
  have K7 := bsb K6 hb
  clear c6_0_0 c6_0_1 c6_0_2 c6_0_3 c6_1_0 c6_1_1 c6_2_0 c6_2_1 c6_2_2 c6_2_3 c6_3_0 c6_3_1 c6_4_0 c6_4_1
  clear hb K6
  obtain ⟨c7_0_0, c7_0_1, c7_0_2, c7_0_3⟩ := (bo1 K7).c4
  obtain ⟨c7_1_0, c7_1_1⟩ := (bo2 K7).c2
  obtain ⟨c7_2_0, c7_2_1, c7_2_2, c7_2_3⟩ := (bo3 K7).c4
  obtain ⟨z7_2_0, z7_2_1, z7_2_2, z7_2_3⟩ := (bo3 K7).f4
  obtain ⟨c7_3_0, c7_3_1⟩ := (bo4 K7).c2
  obtain ⟨c7_4_0, c7_4_1⟩ := (bo5 K7).c2
  have XF : Hid (Bx (W7.setCells (w.heap.size + 2) 0 [vi ki 0, vi ki m2, vi ki d2, vi ki u2]) (w.heap.size + 2) [vi ki 0, vi ki m2, vi ki d2, vi ki u2]) := (K7.out.at (w.heap.size + 2) [vi ki 0, vi ki 0, vi ki 0, vi ki 0] (by simp)).setAll _ rfl
  have BF : Hid (Below w.heap.size w (W7.setCells (w.heap.size + 2) 0 [vi ki 0, vi ki m2, vi ki d2, vi ki u2])) := below_setCells (by omega) _ _ _ K7.out.1
  have y0 := XF.out.c 0 rfl
  have y1 := XF.out.c 1 rfl
  have y2 := XF.out.c 2 rfl
  have y3 := XF.out.c 3 rfl
  simp only [World.setCells, Nat.zero_add, Nat.reduceAdd] at y0 y1 y2 y3
  clear XF
  go_wp2
  exact bodyPost_ret (v := .tuple #[.agg #[vi ki 0, vi ki m2, vi ki d2, vi ki u2], vi ki E]) (by simp [results, Tryz.results93, go_sem, y0, y1, y2, y3]) rfl ⟨rfl, BF.out⟩
theorem gone_gt (a b p q X c X2 d1 u1 m2 d2 u2 E : Int) (p1 : -100000000 ≤ p) (p2 : p ≤ 100000000) (q1 : -100000000 ≤ q) (q2 : q ≤ 100000000) (hc : 0 < c)
  (MA : Hid (∀ w : World, Cvl.Lens w → Calls Tryz.prog 138 #[.agg #[vi ki 0, vi ki a]] w fun r' w' => r' = zr (vi ki p) ∧ Below w.heap.size w w'))
  (MB : Hid (∀ w : World, Cvl.Lens w → Calls Tryz.prog 138 #[.agg #[vi ki 0, vi ki b]] w fun r' w' => r' = zr (vi ki q) ∧ Below w.heap.size w w'))
  (AA : Hid (∀ w : World, Cvl.Lens w → Calls Tryz.prog 17 #[.agg #[vi ki 0, vi ki b], .agg #[vi ki 0, vi ki (p - q), vi ki 0, vi ki 0]] w fun r' w' => r' = zr (.tuple #[.agg #[vi ki 0, vi ki X], vi ki 0]) ∧ Below w.heap.size w w'))
  (CC : Hid (∀ w : World, Cvl.Lens w → Calls Tryz.prog 92 #[.agg #[vi ki 0, vi ki X], .agg #[vi ki 0, vi ki a]] w fun r' w' => r' = zr (vi ki c) ∧ Below w.heap.size w w'))
  (AB : Hid (∀ w : World, Cvl.Lens w → Calls Tryz.prog 17 #[.agg #[vi ki 0, vi ki b], .agg #[vi ki 0, vi ki (p - q - 1), vi ki 0, vi ki 0]] w fun r' w' => r' = zr (.tuple #[.agg #[vi ki 0, vi ki X2], vi ki 0]) ∧ Below w.heap.size w w'))
  (SB : Hid (∀ w : World, Cvl.Lens w → Calls Tryz.prog 91 #[.agg #[vi ki 0, vi ki a], .agg #[vi ki 0, vi ki X2]] w fun r' w' => r' = zr (.tuple #[.agg #[vi ki 0, vi ki 0, vi ki d1, vi ki u1], vi ki 0]) ∧ Below w.heap.size w w'))
  (MK : Hid (∀ w : World, Calls Tryz.prog 137 #[vi ki (p - q - 1), vi ki d1, vi ki u1] w fun r' w' => r' = zr (.tuple #[.agg #[vi ki 0, vi ki m2, vi ki d2, vi ki u2], vi ki E]) ∧ Below w.heap.size w w'))
  (w : World) (hL : Hid (∀ W : World, Below w.heap.size w W → Cvl.Lens W)) :
  Calls Tryz.prog 93 #[.agg #[vi ki 0, vi ki a], .agg #[vi ki 0, vi ki b]] w fun r' w' => r' = zr (.tuple #[.agg #[vi ki 0, vi ki m2, vi ki d2, vi ki u2], vi ki E]) ∧ Below w.heap.size w w' := by
 have hwr : IntKind.i64.wrap (p - q) = p - q := by rw [IntKind.wrap_i64]; omega
 have K0 := bsn3 w [vi ki 0, vi ki a] 36 [vi ki 0, vi ki b] 36 [vi ki 0, vi ki 0, vi ki 0, vi ki 0] 59
 go_enter Tryz.func93, Tryz.ntmps93
 go_wp2_with fail
 go_cut [6] (fun v0 wx => v0 = vi ki (p - q) ∧ Hid (BS w [(w.heap.size + 2, [vi ki 0, vi ki 0, vi ki 0, vi ki 0]), (w.heap.size + 1, [vi ki 0, vi ki b]), (w.heap.size, [vi ki 0, vi ki a])] wx))
 case first =>
  refine wp_region_held_drew (S := BS w [(w.heap.size + 2, [vi ki 0, vi ki 0, vi ki 0, vi ki 0]), (w.heap.size + 1, [vi ki 0, vi ki b]), (w.heap.size, [vi ki 0, vi ki a])]) (by kernel_rfl) K0.out.drew (fun hHeld => ?_)
  refine tk (v := ?_) 0 ⟨some 10, _, _, _, _, none⟩ rfl ?_ ?_
  case refine_2 => (intro w9 hSw; obtain ⟨l0_0, l0_1, l0_2, l0_3⟩ := (hSw.at (w.heap.size + 2) [vi ki 0, vi ki 0, vi ki 0, vi ki 0] (by simp)).c4; obtain ⟨l1_0, l1_1⟩ := (hSw.at (w.heap.size + 1) [vi ki 0, vi ki b] (by simp)).c2; obtain ⟨l2_0, l2_1⟩ := (hSw.at (w.heap.size) [vi ki 0, vi ki a] (by simp)).c2; clear hSw; go_simp; try with_reducible rfl)
  simp only [za, zb, zc, zd]
  refine tk (v := ?_) 2 ⟨some 12, _, _, _, _, none⟩ rfl ?_ ?_
  case refine_2 => (intro w9 hSw; obtain ⟨l0_0, l0_1, l0_2, l0_3⟩ := (hSw.at (w.heap.size + 2) [vi ki 0, vi ki 0, vi ki 0, vi ki 0] (by simp)).c4; obtain ⟨l1_0, l1_1⟩ := (hSw.at (w.heap.size + 1) [vi ki 0, vi ki b] (by simp)).c2; obtain ⟨l2_0, l2_1⟩ := (hSw.at (w.heap.size) [vi ki 0, vi ki a] (by simp)).c2; clear hSw; go_simp; try with_reducible rfl)
  simp only [za, zb, zc, zd]
  refine rd 1 ⟨some 11, _, _, _, _, none⟩ rfl (fun K hK => ?_)
  go_simp
  refine (MA.out _ (hL.out _ hHeld.1)).mono ?_
  rintro e v1 ⟨rfl, hb1⟩
  refine hK.out _ _ (hHeld.below hb1) (fun hHeld => ?_)
  clear hK K hb1
  refine rd 3 ⟨some 13, _, _, _, _, none⟩ rfl (fun K hK => ?_)
  go_simp
  refine (MB.out _ (hL.out _ hHeld.1)).mono ?_
  rintro e v2 ⟨rfl, hb2⟩
  refine hK.out _ _ (hHeld.below hb2) (fun hHeld => ?_)
  clear hK K hb2
  refine tks 4 ⟨some 14, _, _, _, _, none⟩ rfl ?_
  simp only [za, zb, zc, zd]
  refine tks 5 ⟨some 6, _, _, _, _, none⟩ rfl ?_
  simp only [za, zb, zc, zd]
  refine wpAnyH_done (by kernel_rfl) ?_ _
  go_wp2_with fail
  go_meet
  case rel => exact ⟨rfl, hHeld⟩
 case rest =>
  obtain ⟨rfl, K1⟩ := hcut
  clear K0
  skip
  obtain ⟨c1_0_0, c1_0_1, c1_0_2, c1_0_3⟩ := (bo1 K1).c4
  obtain ⟨c1_1_0, c1_1_1⟩ := (bo2 K1).c2
  obtain ⟨c1_2_0, c1_2_1⟩ := (bo3 K1).c2
  go_wp2_with fail
  refine (AA.out _ (hL.out _ K1.out.1)).mono ?_
  rintro e W2 ⟨rfl, hb⟩
  have K2 := bsb K1 hb
  clear c1_0_0 c1_0_1 c1_0_2 c1_0_3 c1_1_0 c1_1_1 c1_2_0 c1_2_1
  clear hb K1
  obtain ⟨c2_0_0, c2_0_1, c2_0_2, c2_0_3⟩ := (bo1 K2).c4
  obtain ⟨c2_1_0, c2_1_1⟩ := (bo2 K2).c2
  obtain ⟨c2_2_0, c2_2_1⟩ := (bo3 K2).c2
  have Mz2 := bsn K2 [vi ki 0, vi ki X] 36
  have lt2_0 := (bo1 K2).1
  have lt2_1 := (bo2 K2).1
  have lt2_2 := (bo3 K2).1
  go_upto_region 3 with fail
  refine bs_to Mz2 ?_
  clear c2_0_0 c2_0_1 c2_0_2 c2_0_3 c2_1_0 c2_1_1 c2_2_0 c2_2_1
  intro W3 K3
  clear Mz2 K2
  obtain ⟨c3_0_0, c3_0_1⟩ := (bo1 K3).c2
  obtain ⟨c3_1_0, c3_1_1, c3_1_2, c3_1_3⟩ := (bo2 K3).c4
  obtain ⟨c3_2_0, c3_2_1⟩ := (bo3 K3).c2
  obtain ⟨c3_3_0, c3_3_1⟩ := (bo4 K3).c2
  go_wp2_with fail
  refine (CC.out _ (hL.out _ K3.out.1)).mono ?_
  rintro e W4 ⟨rfl, hb⟩
  have K4 := bsb K3 hb
  clear c3_0_0 c3_0_1 c3_1_0 c3_1_1 c3_1_2 c3_1_3 c3_2_0 c3_2_1 c3_3_0 c3_3_1
  clear hb K3
  obtain ⟨c4_0_0, c4_0_1⟩ := (bo1 K4).c2
  obtain ⟨c4_1_0, c4_1_1, c4_1_2, c4_1_3⟩ := (bo2 K4).c4
  obtain ⟨c4_2_0, c4_2_1⟩ := (bo3 K4).c2
  obtain ⟨c4_3_0, c4_3_1⟩ := (bo4 K4).c2
  go_wp2_with fail
  refine (AB.out _ (hL.out _ K4.out.1)).mono ?_
  rintro e W5 ⟨rfl, hb⟩
  have K5 := bsb K4 hb
  clear c4_0_0 c4_0_1 c4_1_0 c4_1_1 c4_1_2 c4_1_3 c4_2_0 c4_2_1 c4_3_0 c4_3_1
  clear hb K4
  obtain ⟨c5_0_0, c5_0_1⟩ := (bo1 K5).c2
  obtain ⟨c5_1_0, c5_1_1, c5_1_2, c5_1_3⟩ := (bo2 K5).c4
  obtain ⟨c5_2_0, c5_2_1⟩ := (bo3 K5).c2
  obtain ⟨c5_3_0, c5_3_1⟩ := (bo4 K5).c2
  clear c5_0_0 c5_0_1 c5_1_0 c5_1_1 c5_1_2 c5_1_3 c5_2_0 c5_2_1 c5_3_0 c5_3_1
  have r5_0 : W5.cell? ⟨W2.heap.size, 0, none⟩ = some (vi ki 0) := (K5.out.at (W2.heap.size) [vi ki 0, vi ki X] (by simp)).c 0 rfl
  have sr5_0 : W5.frozen? ⟨W2.heap.size, 0, none⟩ = false := (K5.out.at (W2.heap.size) [vi ki 0, vi ki X] (by simp)).f 0 rfl
  have r5_1 : W5.cell? ⟨W2.heap.size, 1, none⟩ = some (vi ki X) := (K5.out.at (W2.heap.size) [vi ki 0, vi ki X] (by simp)).c 1 rfl
  have sr5_1 : W5.frozen? ⟨W2.heap.size, 1, none⟩ = false := (K5.out.at (W2.heap.size) [vi ki 0, vi ki X] (by simp)).f 1 rfl
  have Mz5 : Hid (BS w [(W2.heap.size, [vi ki 0, vi ki X2]), (w.heap.size + 2, [vi ki 0, vi ki 0, vi ki 0, vi ki 0]), (w.heap.size + 1, [vi ki 0, vi ki b]), (w.heap.size, [vi ki 0, vi ki a])] (W5.setCells (W2.heap.size) 0 [vi ki 0, vi ki X2])) := ((K5.out.perm (l' := [(W2.heap.size, [vi ki 0, vi ki X]), (w.heap.size + 2, [vi ki 0, vi ki 0, vi ki 0, vi ki 0]), (w.heap.size + 1, [vi ki 0, vi ki b]), (w.heap.size, [vi ki 0, vi ki a])]) (by intro x hx; simp only [List.mem_cons, List.not_mem_nil, or_false] at hx ⊢; rcases hx with h | h | h | h <;> simp [h])).set [vi ki 0, vi ki X2] rfl (by intro x hx; simp only [List.mem_cons, List.not_mem_nil, or_false] at hx; rcases hx with rfl | rfl | rfl <;> simp only [] <;> omega))
  simp only [World.setCells, Nat.zero_add] at Mz5
  go_upto_region 8 with fail
  refine gen_to (BS w [(W2.heap.size, [vi ki 0, vi ki X2]), (w.heap.size + 2, [vi ki 0, vi ki 0, vi ki 0, vi ki 0]), (w.heap.size + 1, [vi ki 0, vi ki b]), (w.heap.size, [vi ki 0, vi ki a])]) Mz5.out ?_
  clear r5_0 sr5_0 r5_1 sr5_1
  intro W6 K6'
  have K6 : Hid (BS w [(W2.heap.size, [vi ki 0, vi ki X2]), (w.heap.size + 2, [vi ki 0, vi ki 0, vi ki 0, vi ki 0]), (w.heap.size + 1, [vi ki 0, vi ki b]), (w.heap.size, [vi ki 0, vi ki a])] W6) := K6'
  clear K6' Mz5 K5
  obtain ⟨c6_0_0, c6_0_1⟩ := (bo1 K6).c2
  obtain ⟨c6_1_0, c6_1_1, c6_1_2, c6_1_3⟩ := (bo2 K6).c4
  obtain ⟨c6_2_0, c6_2_1⟩ := (bo3 K6).c2
  obtain ⟨c6_3_0, c6_3_1⟩ := (bo4 K6).c2
  go_wp2_with fail
  refine (SB.out _ (hL.out _ K6.out.1)).mono ?_
  rintro e W7 ⟨rfl, hb⟩
  have K7 := bsb K6 hb
  clear c6_0_0 c6_0_1 c6_1_0 c6_1_1 c6_1_2 c6_1_3 c6_2_0 c6_2_1 c6_3_0 c6_3_1
  clear hb K6
  obtain ⟨c7_0_0, c7_0_1⟩ := (bo1 K7).c2
  obtain ⟨c7_1_0, c7_1_1, c7_1_2, c7_1_3⟩ := (bo2 K7).c4
  obtain ⟨c7_2_0, c7_2_1⟩ := (bo3 K7).c2
  obtain ⟨c7_3_0, c7_3_1⟩ := (bo4 K7).c2
  have Mz7 := bsn K7 [vi ki 0, vi ki 0, vi ki d1, vi ki u1] 59
  have lt7_0 := (bo1 K7).1
  have lt7_1 := (bo2 K7).1
  have lt7_2 := (bo3 K7).1
  have lt7_3 := (bo4 K7).1
  go_upto_region 11 with fail
  refine bs_to Mz7 ?_
  clear c7_0_0 c7_0_1 c7_1_0 c7_1_1 c7_1_2 c7_1_3 c7_2_0 c7_2_1 c7_3_0 c7_3_1
  intro W8 K8
  clear Mz7 K7
  obtain ⟨c8_0_0, c8_0_1, c8_0_2, c8_0_3⟩ := (bo1 K8).c4
  obtain ⟨c8_1_0, c8_1_1⟩ := (bo2 K8).c2
  obtain ⟨c8_2_0, c8_2_1, c8_2_2, c8_2_3⟩ := (bo3 K8).c4
  obtain ⟨c8_3_0, c8_3_1⟩ := (bo4 K8).c2
  obtain ⟨c8_4_0, c8_4_1⟩ := (bo5 K8).c2
  go_wp2_with fail
  refine (MK.out _).mono ?_
  rintro e W9 ⟨rfl, hb⟩
  have K9 := bsb K8 hb
  clear c8_0_0 c8_0_1 c8_0_2 c8_0_3 c8_1_0 c8_1_1 c8_2_0 c8_2_1 c8_2_2 c8_2_3 c8_3_0 c8_3_1 c8_4_0 c8_4_1
  clear hb K8
  obtain ⟨c9_0_0, c9_0_1, c9_0_2, c9_0_3⟩ := (bo1 K9).c4
  obtain ⟨c9_1_0, c9_1_1⟩ := (bo2 K9).c2
  obtain ⟨c9_2_0, c9_2_1, c9_2_2, c9_2_3⟩ := (bo3 K9).c4
  obtain ⟨z9_2_0, z9_2_1, z9_2_2, z9_2_3⟩ := (bo3 K9).f4
  obtain ⟨c9_3_0, c9_3_1⟩ := (bo4 K9).c2
  obtain ⟨c9_4_0, c9_4_1⟩ := (bo5 K9).c2
  have XF : Hid (Bx (W9.setCells (w.heap.size + 2) 0 [vi ki 0, vi ki m2, vi ki d2, vi ki u2]) (w.heap.size + 2) [vi ki 0, vi ki m2, vi ki d2, vi ki u2]) := (K9.out.at (w.heap.size + 2) [vi ki 0, vi ki 0, vi ki 0, vi ki 0] (by simp)).setAll _ rfl
  have BF : Hid (Below w.heap.size w (W9.setCells (w.heap.size + 2) 0 [vi ki 0, vi ki m2, vi ki d2, vi ki u2])) := below_setCells (by omega) _ _ _ K9.out.1
  have y0 := XF.out.c 0 rfl
  have y1 := XF.out.c 1 rfl
  have y2 := XF.out.c 2 rfl
  have y3 := XF.out.c 3 rfl
  simp only [World.setCells, Nat.zero_add, Nat.reduceAdd] at y0 y1 y2 y3
  clear XF
  go_wp2
  exact bodyPost_ret (v := .tuple #[.agg #[vi ki 0, vi ki m2, vi ki d2, vi ki u2], vi ki E]) (by simp [results, Tryz.results93, go_sem, y0, y1, y2, y3]) rfl ⟨rfl, BF.out⟩
theorem age_ge (a b c x0 x1 x2 x3 x4 : Int) (hc : 0 ≤ c)
  (R : Hid (∀ w : World, Cvl.Lens w → Calls Tryz.prog 32 #[.agg #[vi ki 0, vi ki a]] w fun r' w' => r' = zr (.bool true) ∧ Below w.heap.size w w'))
  (R2 : Hid (∀ w : World, Cvl.Lens w → Calls Tryz.prog 32 #[.agg #[vi ki 0, vi ki b]] w fun r' w' => r' = zr (.bool true) ∧ Below w.heap.size w w'))
  (CC : Hid (∀ w : World, Cvl.Lens w → Calls Tryz.prog 92 #[.agg #[vi ki 0, vi ki a], .agg #[vi ki 0, vi ki b]] w fun r' w' => r' = zr (vi ki c) ∧ Below w.heap.size w w'))
  (GO : Hid (∀ w : World, Cvl.Lens w → Calls Tryz.prog 93 #[.agg #[vi ki 0, vi ki a], .agg #[vi ki 0, vi ki b]] w fun r' w' => r' = zr (.tuple #[.agg #[vi ki x0, vi ki x1, vi ki x2, vi ki x3], vi ki x4]) ∧ Below w.heap.size w w'))
  (w : World) (hL : Hid (∀ W : World, Below w.heap.size w W → Cvl.Lens W)) :
  Calls Tryz.prog 44 #[.agg #[vi ki 0, vi ki a], .agg #[vi ki 0, vi ki b]] w fun r' w' => r' = zr (.tuple #[.agg #[vi ki x0, vi ki x1, vi ki x2, vi ki x3], vi ki x4]) ∧ Below w.heap.size w w' := by
 have K0 := bsn3 w [vi ki 0, vi ki a] 36 [vi ki 0, vi ki b] 36 [vi ki 0, vi ki 0, vi ki 0, vi ki 0] 59
 go_enter Tryz.func44, Tryz.ntmps44
 go_wp2_with fail
 refine (R.out _ (hL.out _ K0.out.1)).mono ?_
 rintro e W1 ⟨rfl, hb⟩
 have K1 := bsb K0 hb
 clear hb K0
 obtain ⟨c1_0_0, c1_0_1, c1_0_2, c1_0_3⟩ := (bo1 K1).c4
 obtain ⟨c1_1_0, c1_1_1⟩ := (bo2 K1).c2
 obtain ⟨c1_2_0, c1_2_1⟩ := (bo3 K1).c2
 go_wp2_with fail
 refine (R2.out _ (hL.out _ K1.out.1)).mono ?_
 rintro e W2 ⟨rfl, hb⟩
 have K2 := bsb K1 hb
 clear c1_0_0 c1_0_1 c1_0_2 c1_0_3 c1_1_0 c1_1_1 c1_2_0 c1_2_1
 clear hb K1
 obtain ⟨c2_0_0, c2_0_1, c2_0_2, c2_0_3⟩ := (bo1 K2).c4
 obtain ⟨c2_1_0, c2_1_1⟩ := (bo2 K2).c2
 obtain ⟨c2_2_0, c2_2_1⟩ := (bo3 K2).c2
 go_wp2_with fail
 refine (CC.out _ (hL.out _ K2.out.1)).mono ?_
 rintro e W3 ⟨rfl, hb⟩
 have K3 := bsb K2 hb
 clear c2_0_0 c2_0_1 c2_0_2 c2_0_3 c2_1_0 c2_1_1 c2_2_0 c2_2_1
 clear hb K2
 obtain ⟨c3_0_0, c3_0_1, c3_0_2, c3_0_3⟩ := (bo1 K3).c4
 obtain ⟨c3_1_0, c3_1_1⟩ := (bo2 K3).c2
 obtain ⟨c3_2_0, c3_2_1⟩ := (bo3 K3).c2
 go_wp2_with fail
 refine (GO.out _ (hL.out _ K3.out.1)).mono ?_
 rintro e W4 ⟨rfl, hb⟩
 have K4 := bsb K3 hb
 clear c3_0_0 c3_0_1 c3_0_2 c3_0_3 c3_1_0 c3_1_1 c3_2_0 c3_2_1
 clear hb K3
 obtain ⟨c4_0_0, c4_0_1, c4_0_2, c4_0_3⟩ := (bo1 K4).c4
 obtain ⟨z4_0_0, z4_0_1, z4_0_2, z4_0_3⟩ := (bo1 K4).f4
 obtain ⟨c4_1_0, c4_1_1⟩ := (bo2 K4).c2
 obtain ⟨c4_2_0, c4_2_1⟩ := (bo3 K4).c2
 have XF : Hid (Bx (W4.setCells (w.heap.size + 2) 0 [vi ki x0, vi ki x1, vi ki x2, vi ki x3]) (w.heap.size + 2) [vi ki x0, vi ki x1, vi ki x2, vi ki x3]) := (K4.out.at (w.heap.size + 2) [vi ki 0, vi ki 0, vi ki 0, vi ki 0] (by simp)).setAll _ rfl
 have BF : Hid (Below w.heap.size w (W4.setCells (w.heap.size + 2) 0 [vi ki x0, vi ki x1, vi ki x2, vi ki x3])) := below_setCells (by omega) _ _ _ K4.out.1
 have y0 := XF.out.c 0 rfl
 have y1 := XF.out.c 1 rfl
 have y2 := XF.out.c 2 rfl
 have y3 := XF.out.c 3 rfl
 simp only [World.setCells, Nat.zero_add, Nat.reduceAdd] at y0 y1 y2 y3
 clear XF
 go_wp2
 exact bodyPost_ret (v := .tuple #[.agg #[vi ki x0, vi ki x1, vi ki x2, vi ki x3], vi ki x4]) (by simp [results, Tryz.results44, go_sem, y0, y1, y2, y3]) rfl ⟨rfl, BF.out⟩
end Go.Proofs.YtklehbmghjcmaaaGreatDoor
