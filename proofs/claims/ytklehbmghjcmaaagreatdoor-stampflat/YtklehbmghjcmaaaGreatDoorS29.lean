import Derived.Test.YtklehbmghjcmaaaGreatDoorSz
import Derived.Test.YtklehbmghjcmaaaGreatDoorS28
import Derived.Test.YtklehbmghjcmaaaGreatDoorS2
import Derived.Deep.Cut
import Derived.Test.YtklehbmghjcmaaaGreatDoorS24
open Go.Value renaming int → vi
open Go.IntKind renaming i64 → ki
open List renaming setIfInBounds_toArray → zb, set_cons_zero → zc, set_cons_succ → zd
open Go.Act renaming put → za
open Go.Ending renaming returned → zr
set_option maxRecDepth 100000
set_option maxHeartbeats 16000000
set_option linter.unusedVariables false
namespace Go.Proofs.YtklehbmghjcmaaaGreatDoor.Sp
open Go.RowKit
theorem pmul_inf_mm (n : Int) (hn : n ≠ 0)
  (R : Hid (∀ w : World, Calls Tryz.prog 23 #[.agg #[vi ki (-1), vi ki 0, vi ki 0, vi ki 0]] w fun r' w' => r' = zr (.bool true) ∧ Below w.heap.size w w'))
  (C : Hid (∀ w : World, Calls Tryz.prog 185 #[vi ki n, vi ki 0] w fun r' w' => r' = zr (vi ki (-1)) ∧ w' = w))
  (w : World) :
  Calls Tryz.prog 139 #[.agg #[vi ki (-1), vi ki 0, vi ki 0, vi ki 0], vi ki n] w fun r' w' => r' = zr (.tuple #[.agg #[vi ki 1, vi ki 0, vi ki 0, vi ki 0], vi ki 0]) ∧ Below w.heap.size w w' := by
 have n1 : (n == 0) = false := by simpa using hn
 have q1 : IntKind.i64.wrap 1 = 1 := by decide
 have q2 : IntKind.i64.wrap (-1) = -1 := by decide
 have K0 := bsn2 w [vi ki (-1), vi ki 0, vi ki 0, vi ki 0] 59 [vi ki 0, vi ki 0, vi ki 0, vi ki 0] 59
 go_enter Tryz.func139, Tryz.ntmps139
 go_wp2_with fail
 refine (R.out _).mono ?_
 rintro e W1 ⟨rfl, hb⟩
 have K1 := bsb K0 hb
 clear hb K0
 obtain ⟨c1_0_0, c1_0_1, c1_0_2, c1_0_3⟩ := (bo1 K1).c4
 obtain ⟨z1_0_0, z1_0_1, z1_0_2, z1_0_3⟩ := (bo1 K1).f4
 obtain ⟨c1_1_0, c1_1_1, c1_1_2, c1_1_3⟩ := (bo2 K1).c4
 go_wp2_with fail
 clear c1_0_0 c1_0_1 c1_0_2 c1_0_3 z1_0_0 z1_0_1 z1_0_2 z1_0_3 c1_1_0 c1_1_1 c1_1_2 c1_1_3
 refine wp_region_held_drew (S := BS w [(w.heap.size, [vi ki (-1), vi ki 0, vi ki 0, vi ki 0])]) (by kernel_rfl) K1.out.drew.tail (fun hHeld => ?_)
 refine tks 0 ⟨some 26, _, _, _, _, none⟩ rfl ?_
 simp only [za, zb, zc, zd]
 refine tk (v := ?_) 1 ⟨some 27, _, _, _, _, none⟩ rfl ?_ ?_
 case refine_2 => (intro w9 hSw; obtain ⟨l_0, l_1, l_2, l_3⟩ := (hSw.at (w.heap.size) [vi ki (-1), vi ki 0, vi ki 0, vi ki 0] (by simp)).c4; clear hSw; go_simp; try with_reducible rfl)
 simp only [za, zb, zc, zd]
 refine tks 2 ⟨some 28, _, _, _, _, none⟩ rfl ?_
 simp only [za, zb, zc, zd]
 refine rd 3 ⟨some 29, _, _, _, _, none⟩ rfl (fun K hK => ?_)
 go_simp
 refine (C.out _).mono ?_
 rintro e v1 ⟨rfl, hw⟩
 rw [hw]
 refine hK.out _ _ hHeld (fun hHeld => ?_)
 clear hK K hw v1
 refine tks 4 ⟨some 30, _, _, _, _, none⟩ rfl ?_
 simp only [za, zb, zc, zd]
 refine tks 5 ⟨some 31, _, _, _, _, none⟩ rfl ?_
 simp only [za, zb, zc, zd]
 refine rd 6 ⟨none, _, _, _, _, none⟩ rfl (fun K hK => ?_)
 have XD := K1.out
 have y_0 := XD.first.c 0 rfl
 have y_1 := XD.first.c 1 rfl
 have y_2 := XD.first.c 2 rfl
 have y_3 := XD.first.c 3 rfl
 have z_0 := XD.first.f 0 rfl
 have z_1 := XD.first.f 1 rfl
 have z_2 := XD.first.f 2 rfl
 have z_3 := XD.first.f 3 rfl
 clear XD
 go_simp
 refine hK.out _ _ (K1.out.set [vi ki 1, vi ki 0, vi ki 0, vi ki 0] rfl (by intro x hx; simp only [List.mem_singleton] at hx; subst hx; exact Nat.ne_of_lt (Nat.lt_succ_self _))).tail.drew (fun hHeld => ?_)
 clear hK K
 refine tks 7 ⟨some 5, _, _, _, _, none⟩ rfl ?_
 simp only [za, zb, zc, zd]
 refine wpAnyH_done (by kernel_rfl) ?_ _
 have XF : Hid (Bx (W1.setCells (w.heap.size + 1) 0 [vi ki 1, vi ki 0, vi ki 0, vi ki 0]) (w.heap.size + 1) [vi ki 1, vi ki 0, vi ki 0, vi ki 0]) := K1.out.first.setAll _ rfl
 have BF : Hid (Below w.heap.size w (W1.setCells (w.heap.size + 1) 0 [vi ki 1, vi ki 0, vi ki 0, vi ki 0]).drew) := (below_setCells (by omega) _ _ _ K1.out.1).drew
 have y0 := XF.out.c 0 rfl
 have y1 := XF.out.c 1 rfl
 have y2 := XF.out.c 2 rfl
 have y3 := XF.out.c 3 rfl
 simp only [World.setCells, Nat.zero_add, Nat.reduceAdd] at y0 y1 y2 y3
 clear XF hHeld
 go_wp2
 exact bodyPost_ret (v := .tuple #[.agg #[vi ki 1, vi ki 0, vi ki 0, vi ki 0], vi ki 0]) (by simp [results, Tryz.results139, go_sem, y0, y1, y2, y3]) rfl ⟨rfl, BF.out⟩
theorem pmul_inf_mp (n : Int) (hn : n ≠ 0)
  (R : Hid (∀ w : World, Calls Tryz.prog 23 #[.agg #[vi ki (-1), vi ki 0, vi ki 0, vi ki 0]] w fun r' w' => r' = zr (.bool true) ∧ Below w.heap.size w w'))
  (C : Hid (∀ w : World, Calls Tryz.prog 185 #[vi ki n, vi ki 0] w fun r' w' => r' = zr (vi ki 1) ∧ w' = w))
  (w : World) :
  Calls Tryz.prog 139 #[.agg #[vi ki (-1), vi ki 0, vi ki 0, vi ki 0], vi ki n] w fun r' w' => r' = zr (.tuple #[.agg #[vi ki (-1), vi ki 0, vi ki 0, vi ki 0], vi ki 0]) ∧ Below w.heap.size w w' := by
 have n1 : (n == 0) = false := by simpa using hn
 have q1 : IntKind.i64.wrap 1 = 1 := by decide
 have q2 : IntKind.i64.wrap (-1) = -1 := by decide
 have K0 := bsn2 w [vi ki (-1), vi ki 0, vi ki 0, vi ki 0] 59 [vi ki 0, vi ki 0, vi ki 0, vi ki 0] 59
 go_enter Tryz.func139, Tryz.ntmps139
 go_wp2_with fail
 refine (R.out _).mono ?_
 rintro e W1 ⟨rfl, hb⟩
 have K1 := bsb K0 hb
 clear hb K0
 obtain ⟨c1_0_0, c1_0_1, c1_0_2, c1_0_3⟩ := (bo1 K1).c4
 obtain ⟨z1_0_0, z1_0_1, z1_0_2, z1_0_3⟩ := (bo1 K1).f4
 obtain ⟨c1_1_0, c1_1_1, c1_1_2, c1_1_3⟩ := (bo2 K1).c4
 go_wp2_with fail
 clear c1_0_0 c1_0_1 c1_0_2 c1_0_3 z1_0_0 z1_0_1 z1_0_2 z1_0_3 c1_1_0 c1_1_1 c1_1_2 c1_1_3
 refine wp_region_held_drew (S := BS w [(w.heap.size, [vi ki (-1), vi ki 0, vi ki 0, vi ki 0])]) (by kernel_rfl) K1.out.drew.tail (fun hHeld => ?_)
 refine tks 0 ⟨some 26, _, _, _, _, none⟩ rfl ?_
 simp only [za, zb, zc, zd]
 refine tk (v := ?_) 1 ⟨some 27, _, _, _, _, none⟩ rfl ?_ ?_
 case refine_2 => (intro w9 hSw; obtain ⟨l_0, l_1, l_2, l_3⟩ := (hSw.at (w.heap.size) [vi ki (-1), vi ki 0, vi ki 0, vi ki 0] (by simp)).c4; clear hSw; go_simp; try with_reducible rfl)
 simp only [za, zb, zc, zd]
 refine tks 2 ⟨some 28, _, _, _, _, none⟩ rfl ?_
 simp only [za, zb, zc, zd]
 refine rd 3 ⟨some 29, _, _, _, _, none⟩ rfl (fun K hK => ?_)
 go_simp
 refine (C.out _).mono ?_
 rintro e v1 ⟨rfl, hw⟩
 rw [hw]
 refine hK.out _ _ hHeld (fun hHeld => ?_)
 clear hK K hw v1
 refine tks 4 ⟨some 30, _, _, _, _, none⟩ rfl ?_
 simp only [za, zb, zc, zd]
 refine tks 5 ⟨some 31, _, _, _, _, none⟩ rfl ?_
 simp only [za, zb, zc, zd]
 refine rd 6 ⟨none, _, _, _, _, none⟩ rfl (fun K hK => ?_)
 have XD := K1.out
 have y_0 := XD.first.c 0 rfl
 have y_1 := XD.first.c 1 rfl
 have y_2 := XD.first.c 2 rfl
 have y_3 := XD.first.c 3 rfl
 have z_0 := XD.first.f 0 rfl
 have z_1 := XD.first.f 1 rfl
 have z_2 := XD.first.f 2 rfl
 have z_3 := XD.first.f 3 rfl
 clear XD
 go_simp
 refine hK.out _ _ (K1.out.set [vi ki (-1), vi ki 0, vi ki 0, vi ki 0] rfl (by intro x hx; simp only [List.mem_singleton] at hx; subst hx; exact Nat.ne_of_lt (Nat.lt_succ_self _))).tail.drew (fun hHeld => ?_)
 clear hK K
 refine tks 7 ⟨some 5, _, _, _, _, none⟩ rfl ?_
 simp only [za, zb, zc, zd]
 refine wpAnyH_done (by kernel_rfl) ?_ _
 have XF : Hid (Bx (W1.setCells (w.heap.size + 1) 0 [vi ki (-1), vi ki 0, vi ki 0, vi ki 0]) (w.heap.size + 1) [vi ki (-1), vi ki 0, vi ki 0, vi ki 0]) := K1.out.first.setAll _ rfl
 have BF : Hid (Below w.heap.size w (W1.setCells (w.heap.size + 1) 0 [vi ki (-1), vi ki 0, vi ki 0, vi ki 0]).drew) := (below_setCells (by omega) _ _ _ K1.out.1).drew
 have y0 := XF.out.c 0 rfl
 have y1 := XF.out.c 1 rfl
 have y2 := XF.out.c 2 rfl
 have y3 := XF.out.c 3 rfl
 simp only [World.setCells, Nat.zero_add, Nat.reduceAdd] at y0 y1 y2 y3
 clear XF hHeld
 go_wp2
 exact bodyPost_ret (v := .tuple #[.agg #[vi ki (-1), vi ki 0, vi ki 0, vi ki 0], vi ki 0]) (by simp [results, Tryz.results139, go_sem, y0, y1, y2, y3]) rfl ⟨rfl, BF.out⟩
theorem pmul_inf_pm (n : Int) (hn : n ≠ 0)
  (R : Hid (∀ w : World, Calls Tryz.prog 23 #[.agg #[vi ki 1, vi ki 0, vi ki 0, vi ki 0]] w fun r' w' => r' = zr (.bool true) ∧ Below w.heap.size w w'))
  (C : Hid (∀ w : World, Calls Tryz.prog 185 #[vi ki n, vi ki 0] w fun r' w' => r' = zr (vi ki (-1)) ∧ w' = w))
  (w : World) :
  Calls Tryz.prog 139 #[.agg #[vi ki 1, vi ki 0, vi ki 0, vi ki 0], vi ki n] w fun r' w' => r' = zr (.tuple #[.agg #[vi ki (-1), vi ki 0, vi ki 0, vi ki 0], vi ki 0]) ∧ Below w.heap.size w w' := by
 have n1 : (n == 0) = false := by simpa using hn
 have q1 : IntKind.i64.wrap 1 = 1 := by decide
 have q2 : IntKind.i64.wrap (-1) = -1 := by decide
 have K0 := bsn2 w [vi ki 1, vi ki 0, vi ki 0, vi ki 0] 59 [vi ki 0, vi ki 0, vi ki 0, vi ki 0] 59
 go_enter Tryz.func139, Tryz.ntmps139
 go_wp2_with fail
 refine (R.out _).mono ?_
 rintro e W1 ⟨rfl, hb⟩
 have K1 := bsb K0 hb
 clear hb K0
 obtain ⟨c1_0_0, c1_0_1, c1_0_2, c1_0_3⟩ := (bo1 K1).c4
 obtain ⟨z1_0_0, z1_0_1, z1_0_2, z1_0_3⟩ := (bo1 K1).f4
 obtain ⟨c1_1_0, c1_1_1, c1_1_2, c1_1_3⟩ := (bo2 K1).c4
 go_wp2_with fail
 clear c1_0_0 c1_0_1 c1_0_2 c1_0_3 z1_0_0 z1_0_1 z1_0_2 z1_0_3 c1_1_0 c1_1_1 c1_1_2 c1_1_3
 refine wp_region_held_drew (S := BS w [(w.heap.size, [vi ki 1, vi ki 0, vi ki 0, vi ki 0])]) (by kernel_rfl) K1.out.drew.tail (fun hHeld => ?_)
 refine tks 0 ⟨some 26, _, _, _, _, none⟩ rfl ?_
 simp only [za, zb, zc, zd]
 refine tk (v := ?_) 1 ⟨some 27, _, _, _, _, none⟩ rfl ?_ ?_
 case refine_2 => (intro w9 hSw; obtain ⟨l_0, l_1, l_2, l_3⟩ := (hSw.at (w.heap.size) [vi ki 1, vi ki 0, vi ki 0, vi ki 0] (by simp)).c4; clear hSw; go_simp; try with_reducible rfl)
 simp only [za, zb, zc, zd]
 refine tks 2 ⟨some 28, _, _, _, _, none⟩ rfl ?_
 simp only [za, zb, zc, zd]
 refine rd 3 ⟨some 29, _, _, _, _, none⟩ rfl (fun K hK => ?_)
 go_simp
 refine (C.out _).mono ?_
 rintro e v1 ⟨rfl, hw⟩
 rw [hw]
 refine hK.out _ _ hHeld (fun hHeld => ?_)
 clear hK K hw v1
 refine tks 4 ⟨some 30, _, _, _, _, none⟩ rfl ?_
 simp only [za, zb, zc, zd]
 refine tks 5 ⟨some 31, _, _, _, _, none⟩ rfl ?_
 simp only [za, zb, zc, zd]
 refine rd 6 ⟨none, _, _, _, _, none⟩ rfl (fun K hK => ?_)
 have XD := K1.out
 have y_0 := XD.first.c 0 rfl
 have y_1 := XD.first.c 1 rfl
 have y_2 := XD.first.c 2 rfl
 have y_3 := XD.first.c 3 rfl
 have z_0 := XD.first.f 0 rfl
 have z_1 := XD.first.f 1 rfl
 have z_2 := XD.first.f 2 rfl
 have z_3 := XD.first.f 3 rfl
 clear XD
 go_simp
 refine hK.out _ _ (K1.out.set [vi ki (-1), vi ki 0, vi ki 0, vi ki 0] rfl (by intro x hx; simp only [List.mem_singleton] at hx; subst hx; exact Nat.ne_of_lt (Nat.lt_succ_self _))).tail.drew (fun hHeld => ?_)
 clear hK K
 refine tks 7 ⟨some 5, _, _, _, _, none⟩ rfl ?_
 simp only [za, zb, zc, zd]
 refine wpAnyH_done (by kernel_rfl) ?_ _
 have XF : Hid (Bx (W1.setCells (w.heap.size + 1) 0 [vi ki (-1), vi ki 0, vi ki 0, vi ki 0]) (w.heap.size + 1) [vi ki (-1), vi ki 0, vi ki 0, vi ki 0]) := K1.out.first.setAll _ rfl
 have BF : Hid (Below w.heap.size w (W1.setCells (w.heap.size + 1) 0 [vi ki (-1), vi ki 0, vi ki 0, vi ki 0]).drew) := (below_setCells (by omega) _ _ _ K1.out.1).drew
 have y0 := XF.out.c 0 rfl
 have y1 := XF.out.c 1 rfl
 have y2 := XF.out.c 2 rfl
 have y3 := XF.out.c 3 rfl
 simp only [World.setCells, Nat.zero_add, Nat.reduceAdd] at y0 y1 y2 y3
 clear XF hHeld
 go_wp2
 exact bodyPost_ret (v := .tuple #[.agg #[vi ki (-1), vi ki 0, vi ki 0, vi ki 0], vi ki 0]) (by simp [results, Tryz.results139, go_sem, y0, y1, y2, y3]) rfl ⟨rfl, BF.out⟩
theorem pmul_inf_pp (n : Int) (hn : n ≠ 0)
  (R : Hid (∀ w : World, Calls Tryz.prog 23 #[.agg #[vi ki 1, vi ki 0, vi ki 0, vi ki 0]] w fun r' w' => r' = zr (.bool true) ∧ Below w.heap.size w w'))
  (C : Hid (∀ w : World, Calls Tryz.prog 185 #[vi ki n, vi ki 0] w fun r' w' => r' = zr (vi ki 1) ∧ w' = w))
  (w : World) :
  Calls Tryz.prog 139 #[.agg #[vi ki 1, vi ki 0, vi ki 0, vi ki 0], vi ki n] w fun r' w' => r' = zr (.tuple #[.agg #[vi ki 1, vi ki 0, vi ki 0, vi ki 0], vi ki 0]) ∧ Below w.heap.size w w' := by
 have n1 : (n == 0) = false := by simpa using hn
 have q1 : IntKind.i64.wrap 1 = 1 := by decide
 have q2 : IntKind.i64.wrap (-1) = -1 := by decide
 have K0 := bsn2 w [vi ki 1, vi ki 0, vi ki 0, vi ki 0] 59 [vi ki 0, vi ki 0, vi ki 0, vi ki 0] 59
 go_enter Tryz.func139, Tryz.ntmps139
 go_wp2_with fail
 refine (R.out _).mono ?_
 rintro e W1 ⟨rfl, hb⟩
 have K1 := bsb K0 hb
 clear hb K0
 obtain ⟨c1_0_0, c1_0_1, c1_0_2, c1_0_3⟩ := (bo1 K1).c4
 obtain ⟨z1_0_0, z1_0_1, z1_0_2, z1_0_3⟩ := (bo1 K1).f4
 obtain ⟨c1_1_0, c1_1_1, c1_1_2, c1_1_3⟩ := (bo2 K1).c4
 go_wp2_with fail
 clear c1_0_0 c1_0_1 c1_0_2 c1_0_3 z1_0_0 z1_0_1 z1_0_2 z1_0_3 c1_1_0 c1_1_1 c1_1_2 c1_1_3
 refine wp_region_held_drew (S := BS w [(w.heap.size, [vi ki 1, vi ki 0, vi ki 0, vi ki 0])]) (by kernel_rfl) K1.out.drew.tail (fun hHeld => ?_)
 refine tks 0 ⟨some 26, _, _, _, _, none⟩ rfl ?_
 simp only [za, zb, zc, zd]
 refine tk (v := ?_) 1 ⟨some 27, _, _, _, _, none⟩ rfl ?_ ?_
 case refine_2 => (intro w9 hSw; obtain ⟨l_0, l_1, l_2, l_3⟩ := (hSw.at (w.heap.size) [vi ki 1, vi ki 0, vi ki 0, vi ki 0] (by simp)).c4; clear hSw; go_simp; try with_reducible rfl)
 simp only [za, zb, zc, zd]
 refine tks 2 ⟨some 28, _, _, _, _, none⟩ rfl ?_
 simp only [za, zb, zc, zd]
 refine rd 3 ⟨some 29, _, _, _, _, none⟩ rfl (fun K hK => ?_)
 go_simp
 refine (C.out _).mono ?_
 rintro e v1 ⟨rfl, hw⟩
 rw [hw]
 refine hK.out _ _ hHeld (fun hHeld => ?_)
 clear hK K hw v1
 refine tks 4 ⟨some 30, _, _, _, _, none⟩ rfl ?_
 simp only [za, zb, zc, zd]
 refine tks 5 ⟨some 31, _, _, _, _, none⟩ rfl ?_
 simp only [za, zb, zc, zd]
 refine rd 6 ⟨none, _, _, _, _, none⟩ rfl (fun K hK => ?_)
 have XD := K1.out
 have y_0 := XD.first.c 0 rfl
 have y_1 := XD.first.c 1 rfl
 have y_2 := XD.first.c 2 rfl
 have y_3 := XD.first.c 3 rfl
 have z_0 := XD.first.f 0 rfl
 have z_1 := XD.first.f 1 rfl
 have z_2 := XD.first.f 2 rfl
 have z_3 := XD.first.f 3 rfl
 clear XD
 go_simp
 refine hK.out _ _ (K1.out.set [vi ki 1, vi ki 0, vi ki 0, vi ki 0] rfl (by intro x hx; simp only [List.mem_singleton] at hx; subst hx; exact Nat.ne_of_lt (Nat.lt_succ_self _))).tail.drew (fun hHeld => ?_)
 clear hK K
 refine tks 7 ⟨some 5, _, _, _, _, none⟩ rfl ?_
 simp only [za, zb, zc, zd]
 refine wpAnyH_done (by kernel_rfl) ?_ _
 have XF : Hid (Bx (W1.setCells (w.heap.size + 1) 0 [vi ki 1, vi ki 0, vi ki 0, vi ki 0]) (w.heap.size + 1) [vi ki 1, vi ki 0, vi ki 0, vi ki 0]) := K1.out.first.setAll _ rfl
 have BF : Hid (Below w.heap.size w (W1.setCells (w.heap.size + 1) 0 [vi ki 1, vi ki 0, vi ki 0, vi ki 0]).drew) := (below_setCells (by omega) _ _ _ K1.out.1).drew
 have y0 := XF.out.c 0 rfl
 have y1 := XF.out.c 1 rfl
 have y2 := XF.out.c 2 rfl
 have y3 := XF.out.c 3 rfl
 simp only [World.setCells, Nat.zero_add, Nat.reduceAdd] at y0 y1 y2 y3
 clear XF hHeld
 go_wp2
 exact bodyPost_ret (v := .tuple #[.agg #[vi ki 1, vi ki 0, vi ki 0, vi ki 0], vi ki 0]) (by simp [results, Tryz.results139, go_sem, y0, y1, y2, y3]) rfl ⟨rfl, BF.out⟩
theorem pmul_no (i m d u n : Int)
  (R : Hid (∀ w : World, Calls Tryz.prog 23 #[.agg #[vi ki i, vi ki m, vi ki d, vi ki u]] w fun r' w' => r' = zr (.bool false) ∧ Below w.heap.size w w'))
  (w : World) :
  Calls Tryz.prog 139 #[.agg #[vi ki i, vi ki m, vi ki d, vi ki u], vi ki n] w fun r' w' => r' = zr (.tuple #[.agg #[vi ki 0, vi ki 0, vi ki 0, vi ki 0], vi ki 1]) ∧ Below w.heap.size w w' := by
 have K0 := bsn2 w [vi ki i, vi ki m, vi ki d, vi ki u] 59 [vi ki 0, vi ki 0, vi ki 0, vi ki 0] 59
 go_enter Tryz.func139, Tryz.ntmps139
 go_wp2_with fail
 refine (R.out _).mono ?_
 rintro e W1 ⟨rfl, hb⟩
 have K1 := bsb K0 hb
 clear hb K0
 obtain ⟨c1_0_0, c1_0_1, c1_0_2, c1_0_3⟩ := (bo1 K1).c4
 obtain ⟨z1_0_0, z1_0_1, z1_0_2, z1_0_3⟩ := (bo1 K1).f4
 obtain ⟨c1_1_0, c1_1_1, c1_1_2, c1_1_3⟩ := (bo2 K1).c4
 have XF : Hid (Bx (W1.setCells (w.heap.size + 1) 0 [vi ki 0, vi ki 0, vi ki 0, vi ki 0]) (w.heap.size + 1) [vi ki 0, vi ki 0, vi ki 0, vi ki 0]) := (K1.out.at (w.heap.size + 1) [vi ki 0, vi ki 0, vi ki 0, vi ki 0] (by simp)).setAll _ rfl
 have BF : Hid (Below w.heap.size w (W1.setCells (w.heap.size + 1) 0 [vi ki 0, vi ki 0, vi ki 0, vi ki 0])) := below_setCells (by omega) _ _ _ K1.out.1
 have y0 := XF.out.c 0 rfl
 have y1 := XF.out.c 1 rfl
 have y2 := XF.out.c 2 rfl
 have y3 := XF.out.c 3 rfl
 simp only [World.setCells, Nat.zero_add, Nat.reduceAdd] at y0 y1 y2 y3
 clear XF
 go_wp2
 exact bodyPost_ret (v := .tuple #[.agg #[vi ki 0, vi ki 0, vi ki 0, vi ki 0], vi ki 1]) (by simp [results, Tryz.results139, go_sem, y0, y1, y2, y3]) rfl ⟨rfl, BF.out⟩
theorem pmul_inf0 (i m d u : Int) (hi : i ≠ 0)
  (R : Hid (∀ w : World, Calls Tryz.prog 23 #[.agg #[vi ki i, vi ki m, vi ki d, vi ki u]] w fun r' w' => r' = zr (.bool true) ∧ Below w.heap.size w w'))
  (w : World) :
  Calls Tryz.prog 139 #[.agg #[vi ki i, vi ki m, vi ki d, vi ki u], vi ki 0] w fun r' w' => r' = zr (.tuple #[.agg #[vi ki 0, vi ki 0, vi ki 0, vi ki 0], vi ki 10]) ∧ Below w.heap.size w w' := by
 have i1 : (i == 0) = false := by simpa using hi
 have i2 : (i != 0) = true := bne_iff_ne.2 hi
 have K0 := bsn2 w [vi ki i, vi ki m, vi ki d, vi ki u] 59 [vi ki 0, vi ki 0, vi ki 0, vi ki 0] 59
 go_enter Tryz.func139, Tryz.ntmps139
 go_wp2_with fail
 refine (R.out _).mono ?_
 rintro e W1 ⟨rfl, hb⟩
 have K1 := bsb K0 hb
 clear hb K0
 obtain ⟨c1_0_0, c1_0_1, c1_0_2, c1_0_3⟩ := (bo1 K1).c4
 obtain ⟨z1_0_0, z1_0_1, z1_0_2, z1_0_3⟩ := (bo1 K1).f4
 obtain ⟨c1_1_0, c1_1_1, c1_1_2, c1_1_3⟩ := (bo2 K1).c4
 have XF : Hid (Bx (W1.setCells (w.heap.size + 1) 0 [vi ki 0, vi ki 0, vi ki 0, vi ki 0]) (w.heap.size + 1) [vi ki 0, vi ki 0, vi ki 0, vi ki 0]) := (K1.out.at (w.heap.size + 1) [vi ki 0, vi ki 0, vi ki 0, vi ki 0] (by simp)).setAll _ rfl
 have BF : Hid (Below w.heap.size w (W1.setCells (w.heap.size + 1) 0 [vi ki 0, vi ki 0, vi ki 0, vi ki 0])) := below_setCells (by omega) _ _ _ K1.out.1
 have y0 := XF.out.c 0 rfl
 have y1 := XF.out.c 1 rfl
 have y2 := XF.out.c 2 rfl
 have y3 := XF.out.c 3 rfl
 simp only [World.setCells, Nat.zero_add, Nat.reduceAdd] at y0 y1 y2 y3
 clear XF
 go_wp2
 exact bodyPost_ret (v := .tuple #[.agg #[vi ki 0, vi ki 0, vi ki 0, vi ki 0], vi ki 10]) (by simp [results, Tryz.results139, go_sem, y0, y1, y2, y3]) rfl ⟨rfl, BF.out⟩
theorem pmul_each (m d u n I M D U E : Int)
  (R : Hid (∀ w : World, Calls Tryz.prog 23 #[.agg #[vi ki 0, vi ki m, vi ki d, vi ki u]] w fun r' w' => r' = zr (.bool true) ∧ Below w.heap.size w w'))
  (EA : Hid (∀ w : World, Calls Tryz.prog 183 #[.agg #[vi ki 0, vi ki m, vi ki d, vi ki u], .func (.func 184) #[vi ki n] #[], .func (.func 184) #[vi ki n] #[], .func (.func 184) #[vi ki n] #[]] w fun r' w' => r' = zr (.tuple #[.agg #[vi ki I, vi ki M, vi ki D, vi ki U], vi ki E]) ∧ Below w.heap.size w w'))
  (w : World) :
  Calls Tryz.prog 139 #[.agg #[vi ki 0, vi ki m, vi ki d, vi ki u], vi ki n] w fun r' w' => r' = zr (.tuple #[.agg #[vi ki I, vi ki M, vi ki D, vi ki U], vi ki E]) ∧ Below w.heap.size w w' := by
 have K0 := bsn2 w [vi ki 0, vi ki m, vi ki d, vi ki u] 59 [vi ki 0, vi ki 0, vi ki 0, vi ki 0] 59
 go_enter Tryz.func139, Tryz.ntmps139
 go_wp2_with fail
 refine (R.out _).mono ?_
 rintro e W1 ⟨rfl, hb⟩
 have K1 := bsb K0 hb
 clear hb K0
 obtain ⟨c1_0_0, c1_0_1, c1_0_2, c1_0_3⟩ := (bo1 K1).c4
 obtain ⟨z1_0_0, z1_0_1, z1_0_2, z1_0_3⟩ := (bo1 K1).f4
 obtain ⟨c1_1_0, c1_1_1, c1_1_2, c1_1_3⟩ := (bo2 K1).c4
 go_wp2_with fail
 refine (EA.out _).mono ?_
 rintro e W2 ⟨rfl, hb⟩
 have K2 := bsb K1 hb
 clear c1_0_0 c1_0_1 c1_0_2 c1_0_3 z1_0_0 z1_0_1 z1_0_2 z1_0_3 c1_1_0 c1_1_1 c1_1_2 c1_1_3
 clear hb K1
 obtain ⟨c2_0_0, c2_0_1, c2_0_2, c2_0_3⟩ := (bo1 K2).c4
 obtain ⟨z2_0_0, z2_0_1, z2_0_2, z2_0_3⟩ := (bo1 K2).f4
 obtain ⟨c2_1_0, c2_1_1, c2_1_2, c2_1_3⟩ := (bo2 K2).c4
 have XF : Hid (Bx (W2.setCells (w.heap.size + 1) 0 [vi ki I, vi ki M, vi ki D, vi ki U]) (w.heap.size + 1) [vi ki I, vi ki M, vi ki D, vi ki U]) := (K2.out.at (w.heap.size + 1) [vi ki 0, vi ki 0, vi ki 0, vi ki 0] (by simp)).setAll _ rfl
 have BF : Hid (Below w.heap.size w (W2.setCells (w.heap.size + 1) 0 [vi ki I, vi ki M, vi ki D, vi ki U])) := below_setCells (by omega) _ _ _ K2.out.1
 have y0 := XF.out.c 0 rfl
 have y1 := XF.out.c 1 rfl
 have y2 := XF.out.c 2 rfl
 have y3 := XF.out.c 3 rfl
 simp only [World.setCells, Nat.zero_add, Nat.reduceAdd] at y0 y1 y2 y3
 clear XF
 go_wp2
 exact bodyPost_ret (v := .tuple #[.agg #[vi ki I, vi ki M, vi ki D, vi ki U], vi ki E]) (by simp [results, Tryz.results139, go_sem, y0, y1, y2, y3]) rfl ⟨rfl, BF.out⟩
theorem pneg_run (i m d u I M D U E : Int)
  (ML : Hid (∀ w : World, Calls Tryz.prog 139 #[.agg #[vi ki i, vi ki m, vi ki d, vi ki u], vi ki (-1)] w fun r' w' => r' = zr (.tuple #[.agg #[vi ki I, vi ki M, vi ki D, vi ki U], vi ki E]) ∧ Below w.heap.size w w'))
  (w : World) :
  Calls Tryz.prog 94 #[.agg #[vi ki i, vi ki m, vi ki d, vi ki u]] w fun r' w' => r' = zr (.tuple #[.agg #[vi ki I, vi ki M, vi ki D, vi ki U], vi ki E]) ∧ Below w.heap.size w w' := by
 have K0 := bsn2 w [vi ki i, vi ki m, vi ki d, vi ki u] 59 [vi ki 0, vi ki 0, vi ki 0, vi ki 0] 59
 go_enter Tryz.func94, Tryz.ntmps94
 go_wp2_with fail
 refine (ML.out _).mono ?_
 rintro e W1 ⟨rfl, hb⟩
 have K1 := bsb K0 hb
 clear hb K0
 obtain ⟨c1_0_0, c1_0_1, c1_0_2, c1_0_3⟩ := (bo1 K1).c4
 obtain ⟨z1_0_0, z1_0_1, z1_0_2, z1_0_3⟩ := (bo1 K1).f4
 obtain ⟨c1_1_0, c1_1_1, c1_1_2, c1_1_3⟩ := (bo2 K1).c4
 have XF : Hid (Bx (W1.setCells (w.heap.size + 1) 0 [vi ki I, vi ki M, vi ki D, vi ki U]) (w.heap.size + 1) [vi ki I, vi ki M, vi ki D, vi ki U]) := (K1.out.at (w.heap.size + 1) [vi ki 0, vi ki 0, vi ki 0, vi ki 0] (by simp)).setAll _ rfl
 have BF : Hid (Below w.heap.size w (W1.setCells (w.heap.size + 1) 0 [vi ki I, vi ki M, vi ki D, vi ki U])) := below_setCells (by omega) _ _ _ K1.out.1
 have y0 := XF.out.c 0 rfl
 have y1 := XF.out.c 1 rfl
 have y2 := XF.out.c 2 rfl
 have y3 := XF.out.c 3 rfl
 simp only [World.setCells, Nat.zero_add, Nat.reduceAdd] at y0 y1 y2 y3
 clear XF
 go_wp2
 exact bodyPost_ret (v := .tuple #[.agg #[vi ki I, vi ki M, vi ki D, vi ki U], vi ki E]) (by simp [results, Tryz.results94, go_sem, y0, y1, y2, y3]) rfl ⟨rfl, BF.out⟩
end Go.Proofs.YtklehbmghjcmaaaGreatDoor.Sp
namespace Go.Proofs.YtklehbmghjcmaaaGreatDoor.Sp
open Go.RowKit
structure R5 where
 (i m d u e : Int)
abbrev v5 (x : R5) : Value := .tuple #[.agg #[vi ki x.i, vi ki x.m, vi ki x.d, vi ki x.u], vi ki x.e]
abbrev a4 (i m d u : Int) : Value := .agg #[vi ki i, vi ki m, vi ki d, vi ki u]
def err5 (e : Int) : R5 := ⟨0, 0, 0, 0, e⟩
def mk5 (m d u : Int) : R5 := ⟨0, gM m d u m, gM m d u d, gM m d u u, gE m d u⟩
def parts5 (v1 e1 v2 e2 v3 e3 : Int) : R5 := if e1 = 0 ∧ e2 = 0 ∧ e3 = 0 then mk5 v1 v2 v3 else err5 10
def mul5 (i m d u n : Int) : R5 := if pR i m d u = true then (if i = 0 then parts5 (smV (m * n)) (smE (m * n)) (smV (d * n)) (smE (d * n)) (smV (u * n)) (smE (u * n)) else if n = 0 then err5 10 else ⟨i * sgnC n 0, 0, 0, 0, 0⟩) else err5 1
def neg5 (i m d u : Int) : R5 := if pR i m d u = true then ⟨-i, -m, -d, -u, 0⟩ else err5 1
theorem smE_01 (x : Int) : smE x = 0 ∨ smE x = 10 := by unfold smE; split; exact .inl rfl; exact .inr rfl
theorem smV_bd (x : Int) : -9223372036854775808 ≤ smV x ∧ smV x ≤ 9223372036854775807 := by unfold smV; split; assumption; decide
theorem or_10 {a b c : Int} (ha : a = 0 ∨ a = 10) (hb : b = 0 ∨ b = 10) (hc : c = 0 ∨ c = 10) (h : ¬ (a = 0 ∧ b = 0 ∧ c = 0)) : orV a b c = 10 := by
 rcases ha with rfl | rfl
 ·rcases hb with rfl | rfl
  ·rcases hc with rfl | rfl
   ·exact absurd ⟨rfl, rfl, rfl⟩ h
   ·rfl
  ·rfl
 ·rfl
theorem each_times (m d u n : Int) (n1 : -9223372036854775808 ≤ n) (n2 : n ≤ 9223372036854775807) (m1 : -9223372036854775808 ≤ m) (m2 : m ≤ 9223372036854775807) (d1 : -9223372036854775808 ≤ d) (d2 : d ≤ 9223372036854775807) (u1 : -9223372036854775808 ≤ u) (u2 : u ≤ 9223372036854775807) (w : World) :
  Calls Tryz.prog 183 #[a4 0 m d u, .func (.func 184) #[vi ki n] #[], .func (.func 184) #[vi ki n] #[], .func (.func 184) #[vi ki n] #[]] w
   fun r w' => r = zr (v5 (parts5 (smV (m * n)) (smE (m * n)) (smV (d * n)) (smE (d * n)) (smV (u * n)) (smE (u * n)))) ∧ Below w.heap.size w w' := by
 have F1 := fun w => times_meth n m _ _ (fun w => mul_any m n m1 m2 n1 n2 w) w
 have F2 := fun w => times_meth n d _ _ (fun w => mul_any d n d1 d2 n1 n2 w) w
 have F3 := fun w => times_meth n u _ _ (fun w => mul_any u n u1 u2 n1 n2 w) w
 by_cases h : smE (m * n) = 0 ∧ smE (d * n) = 0 ∧ smE (u * n) = 0
 ·have e : orV (smE (m * n)) (smE (d * n)) (smE (u * n)) = 0 := by rw [h.1, h.2.1, h.2.2]; rfl
  unfold parts5
  rw [if_pos h]
  exact each_times_ok m d u n n n _ _ _ _ _ _ _ _ _ _ e F1 F2 F3 (fun w => pmake_any _ _ _ (smV_bd _).1 (smV_bd _).2 w) w
 ·unfold parts5
  rw [if_neg h]
  exact each_times_bad m d u n n n _ _ _ _ _ _ 10 (or_10 (smE_01 _) (smE_01 _) (smE_01 _) h) (by decide) F1 F2 F3 w
theorem pright_is (i m d u : Int) (u1 : -9223372036854775808 ≤ u) (u2 : u ≤ 9223372036854775807) (c : Bool) (h : pR i m d u = c) : Hid (∀ w : World, Calls Tryz.prog 23 #[a4 i m d u] w fun r' w' => r' = zr (.bool c) ∧ Below w.heap.size w w') := fun w => by rw [← h]; exact pr_any i m d u u1 u2 w
theorem pmul_any (i m d u : Int) (m1 : -9223372036854775808 ≤ m) (m2 : m ≤ 9223372036854775807) (d1 : -9223372036854775808 ≤ d) (d2 : d ≤ 9223372036854775807) (u1 : -9223372036854775808 ≤ u) (u2 : u ≤ 9223372036854775807) (n : Int) (n1 : -9223372036854775808 ≤ n) (n2 : n ≤ 9223372036854775807) (w : World) :
  Calls Tryz.prog 139 #[a4 i m d u, vi ki n] w fun r w' => r = zr (v5 (mul5 i m d u n)) ∧ Below w.heap.size w w' := by
 have RI := pright_is i m d u u1 u2
 unfold mul5
 cases h : pR i m d u
 ·rw [if_neg (by decide)]; exact pmul_no i m d u n (RI false h) w
 ·rw [if_pos rfl]
  by_cases h0 : i = 0
  ·subst h0
   rw [if_pos rfl]
   exact pmul_each m d u n _ _ _ _ _ (RI true h) (fun w => each_times m d u n n1 n2 m1 m2 d1 d2 u1 u2 w) w
  ·rw [if_neg h0]
   by_cases hn : n = 0
   ·subst hn
    rw [if_pos rfl]; exact pmul_inf0 i m d u h0 (RI true h) w
   ·rw [if_neg hn]
    rcases pR_yes h with q | ⟨q, rfl, rfl, rfl⟩
    ·exact absurd q.1 h0
    ·have C := fun w => cmp_int64_any n 0 w
     rcases Int.lt_or_gt_of_ne hn with k | k
     ·rw [sgnC_lt k] at C ⊢
      rcases q with rfl | rfl
      ·exact pmul_inf_mm n hn (RI true h) C w
      ·exact pmul_inf_pm n hn (RI true h) C w
     ·rw [sgnC_gt k] at C ⊢
      rcases q with rfl | rfl
      ·exact pmul_inf_mp n hn (RI true h) C w
      ·exact pmul_inf_pp n hn (RI true h) C w
theorem mul_neg (i m d u : Int) (m1 : -9223372036854775808 ≤ m) (m2 : m ≤ 9223372036854775807) (d1 : -9223372036854775808 ≤ d) (d2 : d ≤ 9223372036854775807) (u1 : -9223372036854775808 ≤ u) (u2 : u ≤ 9223372036854775807) (w : World) : mul5 i m d u (-1) = neg5 i m d u := by
 unfold mul5 neg5
 cases h : pR i m d u
 ·rw [if_neg (by decide), if_neg (by decide)]
 ·rw [if_pos rfl, if_pos rfl]
  rcases pR_yes h with ⟨rfl, a, b, c, e, f, g⟩ | ⟨q, rfl, rfl, rfl⟩
  ·rw [if_pos rfl, show m * -1 = -m by omega, show d * -1 = -d by omega, show u * -1 = -u by omega, smV_in (by omega) (by omega), smE_in (by omega) (by omega), smV_in (by omega) (by omega), smE_in (by omega) (by omega), smV_in (by omega) (by omega), smE_in (by omega) (by omega)]
   unfold parts5
   rw [if_pos ⟨rfl, rfl, rfl⟩]
   unfold mk5
   obtain ⟨x, y, z, t⟩ := g_yes (pR_in (m := -m) (d := -d) (u := -u) (by omega) (by omega) (by omega) (by omega) (by omega) (by omega))
   rw [x, y, z, t]; rfl
  ·have h0 : i ≠ 0 := by omega
   rw [if_neg h0, if_neg (by decide), sgnC_lt (by decide), show i * -1 = -i by omega]; rfl
theorem pneg_any (i m d u : Int) (m1 : -9223372036854775808 ≤ m) (m2 : m ≤ 9223372036854775807) (d1 : -9223372036854775808 ≤ d) (d2 : d ≤ 9223372036854775807) (u1 : -9223372036854775808 ≤ u) (u2 : u ≤ 9223372036854775807) (w : World) : Calls Tryz.prog 94 #[a4 i m d u] w fun r w' => r = zr (v5 (neg5 i m d u)) ∧ Below w.heap.size w w' := by
 rw [← mul_neg i m d u m1 m2 d1 d2 u1 u2 w]
 exact pneg_run i m d u _ _ _ _ _ (fun w => pmul_any i m d u m1 m2 d1 d2 u1 u2 (-1) (by decide) (by decide) w) w
end Go.Proofs.YtklehbmghjcmaaaGreatDoor.Sp
