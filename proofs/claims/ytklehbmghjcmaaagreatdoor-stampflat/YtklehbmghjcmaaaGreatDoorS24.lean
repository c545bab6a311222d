import Derived.Test.YtklehbmghjcmaaaGreatDoorSz
import Derived.Test.YtklehbmghjcmaaaGreatDoorS23
import Derived.Test.YtklehbmghjcmaaaGreatDoorS2
open Go.Value renaming int → vi
open Go.IntKind renaming i64 → ki
open List renaming setIfInBounds_toArray → zb, set_cons_zero → zc, set_cons_succ → zd
open Go.Act renaming put → za
open Go.Ending renaming returned → zr
set_option maxRecDepth 100000
set_option maxHeartbeats 16000000
set_option linter.unusedVariables false
namespace Go.Proofs.YtklehbmghjcmaaaGreatDoor
open Go.RowKit
theorem md_zok (j u D U d us d1 d2 V E e : Int)
  (OF : Hid (∀ w : World, Cvl.Lens w → Calls Tryz.prog 97 #[.agg #[vi ki 0, vi ki u]] w fun r' w' => r' = zr (.tuple #[.agg #[vi ki 0, vi ki d], vi ki us, vi ki 0]) ∧ Below w.heap.size w w'))
  (AD : Hid (∀ w : World, Cvl.Lens w → Calls Tryz.prog 99 #[.agg #[vi ki 0, vi ki d], vi ki D] w fun r' w' => r' = zr (.tuple #[.agg #[vi ki 0, vi ki d2], vi ki 0]) ∧ Below w.heap.size w w'))
  (SM : Hid (∀ w : World, Cvl.Lens w → Calls Tryz.prog 100 #[.agg #[vi ki 0, vi ki d2], vi ki us] w fun r' w' => r' = zr (.tuple #[.agg #[vi ki 0, vi ki V], vi ki E]) ∧ Below w.heap.size w w'))
  (w : World) (hL : Hid (∀ W : World, Below w.heap.size w W → Cvl.Lens W)) :
  Calls Tryz.prog 47 #[.agg #[vi ki 0, vi ki u], .agg #[vi ki j, vi ki 0, vi ki D, vi ki U]] w fun r' w' => r' = zr (.tuple #[.agg #[vi ki 0, vi ki V], vi ki E]) ∧ Below w.heap.size w w' := by
 have K0 := bsn3 w [vi ki 0, vi ki u] 36 [vi ki j, vi ki 0, vi ki D, vi ki U] 59 [vi ki 0, vi ki 0] 36
 go_enter Tryz.func47, Tryz.ntmps47
 go_wp2_with fail
 refine (OF.out _ (hL.out _ K0.out.1)).mono ?_
 rintro e W1 ⟨rfl, hb⟩
 have K1 := bsb K0 hb
 clear hb K0
 obtain ⟨c1_0_0, c1_0_1⟩ := (bo1 K1).c2
 obtain ⟨c1_1_0, c1_1_1, c1_1_2, c1_1_3⟩ := (bo2 K1).c4
 obtain ⟨c1_2_0, c1_2_1⟩ := (bo3 K1).c2
 have Mz1 := bsn K1 [vi ki 0, vi ki d] 111
 have lt1_0 := (bo1 K1).1
 have lt1_1 := (bo2 K1).1
 have lt1_2 := (bo3 K1).1
 go_upto_region 2 with fail
 refine bs_to Mz1 ?_
 clear c1_0_0 c1_0_1 c1_1_0 c1_1_1 c1_1_2 c1_1_3 c1_2_0 c1_2_1
 intro W2 K2
 clear Mz1 K1
 obtain ⟨c2_0_0, c2_0_1⟩ := (bo1 K2).c2
 obtain ⟨c2_1_0, c2_1_1⟩ := (bo2 K2).c2
 obtain ⟨c2_2_0, c2_2_1, c2_2_2, c2_2_3⟩ := (bo3 K2).c4
 obtain ⟨c2_3_0, c2_3_1⟩ := (bo4 K2).c2
 go_wp2_with fail
 refine (AD.out _ (hL.out _ K2.out.1)).mono ?_
 rintro e W3 ⟨rfl, hb⟩
 have K3 := bsb K2 hb
 clear c2_0_0 c2_0_1 c2_1_0 c2_1_1 c2_2_0 c2_2_1 c2_2_2 c2_2_3 c2_3_0 c2_3_1
 clear hb K2
 obtain ⟨c3_0_0, c3_0_1⟩ := (bo1 K3).c2
 obtain ⟨c3_1_0, c3_1_1⟩ := (bo2 K3).c2
 obtain ⟨c3_2_0, c3_2_1, c3_2_2, c3_2_3⟩ := (bo3 K3).c4
 obtain ⟨c3_3_0, c3_3_1⟩ := (bo4 K3).c2
 clear c3_0_0 c3_0_1 c3_1_0 c3_1_1 c3_2_0 c3_2_1 c3_2_2 c3_2_3 c3_3_0 c3_3_1
 have r3_0 : W3.cell? ⟨W1.heap.size, 0, none⟩ = some (vi ki 0) := (K3.out.at (W1.heap.size) [vi ki 0, vi ki d] (by simp)).c 0 rfl
 have sr3_0 : W3.frozen? ⟨W1.heap.size, 0, none⟩ = false := (K3.out.at (W1.heap.size) [vi ki 0, vi ki d] (by simp)).f 0 rfl
 have r3_1 : W3.cell? ⟨W1.heap.size, 1, none⟩ = some (vi ki d) := (K3.out.at (W1.heap.size) [vi ki 0, vi ki d] (by simp)).c 1 rfl
 have sr3_1 : W3.frozen? ⟨W1.heap.size, 1, none⟩ = false := (K3.out.at (W1.heap.size) [vi ki 0, vi ki d] (by simp)).f 1 rfl
 have Mz3 : Hid (BS w [(W1.heap.size, [vi ki 0, vi ki d2]), (w.heap.size + 2, [vi ki 0, vi ki 0]), (w.heap.size + 1, [vi ki j, vi ki 0, vi ki D, vi ki U]), (w.heap.size, [vi ki 0, vi ki u])] (W3.setCells (W1.heap.size) 0 [vi ki 0, vi ki d2])) := ((K3.out.perm (l' := [(W1.heap.size, [vi ki 0, vi ki d]), (w.heap.size + 2, [vi ki 0, vi ki 0]), (w.heap.size + 1, [vi ki j, vi ki 0, vi ki D, vi ki U]), (w.heap.size, [vi ki 0, vi ki u])]) (by intro x hx; simp only [List.mem_cons, List.not_mem_nil, or_false] at hx ⊢; rcases hx with h | h | h | h <;> simp [h])).set [vi ki 0, vi ki d2] rfl (by intro x hx; simp only [List.mem_cons, List.not_mem_nil, or_false] at hx; rcases hx with rfl | rfl | rfl <;> simp only [] <;> omega))
 simp only [World.setCells, Nat.zero_add] at Mz3
 go_upto_region 6 with fail
 refine gen_to (BS w [(W1.heap.size, [vi ki 0, vi ki d2]), (w.heap.size + 2, [vi ki 0, vi ki 0]), (w.heap.size + 1, [vi ki j, vi ki 0, vi ki D, vi ki U]), (w.heap.size, [vi ki 0, vi ki u])]) Mz3.out ?_
 clear r3_0 sr3_0 r3_1 sr3_1
 intro W4 K4'
 have K4 : Hid (BS w [(W1.heap.size, [vi ki 0, vi ki d2]), (w.heap.size + 2, [vi ki 0, vi ki 0]), (w.heap.size + 1, [vi ki j, vi ki 0, vi ki D, vi ki U]), (w.heap.size, [vi ki 0, vi ki u])] W4) := K4'
 clear K4' Mz3 K3
 obtain ⟨c4_0_0, c4_0_1⟩ := (bo1 K4).c2
 obtain ⟨c4_1_0, c4_1_1⟩ := (bo2 K4).c2
 obtain ⟨c4_2_0, c4_2_1, c4_2_2, c4_2_3⟩ := (bo3 K4).c4
 obtain ⟨c4_3_0, c4_3_1⟩ := (bo4 K4).c2
 go_wp2_with fail
 refine (SM.out _ (hL.out _ K4.out.1)).mono ?_
 rintro e W5 ⟨rfl, hb⟩
 have K5 := bsb K4 hb
 clear c4_0_0 c4_0_1 c4_1_0 c4_1_1 c4_2_0 c4_2_1 c4_2_2 c4_2_3 c4_3_0 c4_3_1
 clear hb K4
 obtain ⟨c5_0_0, c5_0_1⟩ := (bo1 K5).c2
 obtain ⟨c5_1_0, c5_1_1⟩ := (bo2 K5).c2
 obtain ⟨z5_1_0, z5_1_1⟩ := (bo2 K5).f2
 obtain ⟨c5_2_0, c5_2_1, c5_2_2, c5_2_3⟩ := (bo3 K5).c4
 obtain ⟨c5_3_0, c5_3_1⟩ := (bo4 K5).c2
 have XF : Hid (Bx (W5.setCells (w.heap.size + 2) 0 [vi ki 0, vi ki V]) (w.heap.size + 2) [vi ki 0, vi ki V]) := (K5.out.at (w.heap.size + 2) [vi ki 0, vi ki 0] (by simp)).setAll _ rfl
 have BF : Hid (Below w.heap.size w (W5.setCells (w.heap.size + 2) 0 [vi ki 0, vi ki V])) := below_setCells (by omega) _ _ _ K5.out.1
 have y0 := XF.out.c 0 rfl
 have y1 := XF.out.c 1 rfl
 simp only [World.setCells, Nat.zero_add] at y0 y1
 clear XF
 go_wp2
 exact bodyPost_ret (v := .tuple #[.agg #[vi ki 0, vi ki V], vi ki E]) (by simp [results, Tryz.results47, go_sem, y0, y1]) rfl ⟨rfl, BF.out⟩
theorem md_zad (j u D U d us d1 d2 V E e : Int) (he : e ≠ 0)
  (OF : Hid (∀ w : World, Cvl.Lens w → Calls Tryz.prog 97 #[.agg #[vi ki 0, vi ki u]] w fun r' w' => r' = zr (.tuple #[.agg #[vi ki 0, vi ki d], vi ki us, vi ki 0]) ∧ Below w.heap.size w w'))
  (AD : Hid (∀ w : World, Cvl.Lens w → Calls Tryz.prog 99 #[.agg #[vi ki 0, vi ki d], vi ki D] w fun r' w' => r' = zr (.tuple #[.agg #[vi ki 0, vi ki d2], vi ki e]) ∧ Below w.heap.size w w'))
  (w : World) (hL : Hid (∀ W : World, Below w.heap.size w W → Cvl.Lens W)) :
  Calls Tryz.prog 47 #[.agg #[vi ki 0, vi ki u], .agg #[vi ki j, vi ki 0, vi ki D, vi ki U]] w fun r' w' => r' = zr (.tuple #[.agg #[vi ki 0, vi ki 0], vi ki e]) ∧ Below w.heap.size w w' := by
 have e1 : (e != 0) = true := bne_iff_ne.2 he
 have e2 : (e == 0) = false := by simpa using he
 have K0 := bsn3 w [vi ki 0, vi ki u] 36 [vi ki j, vi ki 0, vi ki D, vi ki U] 59 [vi ki 0, vi ki 0] 36
 go_enter Tryz.func47, Tryz.ntmps47
 go_wp2_with fail
 refine (OF.out _ (hL.out _ K0.out.1)).mono ?_
 rintro e W1 ⟨rfl, hb⟩
 have K1 := bsb K0 hb
 clear hb K0
 obtain ⟨c1_0_0, c1_0_1⟩ := (bo1 K1).c2
 obtain ⟨c1_1_0, c1_1_1, c1_1_2, c1_1_3⟩ := (bo2 K1).c4
 obtain ⟨c1_2_0, c1_2_1⟩ := (bo3 K1).c2
 have Mz1 := bsn K1 [vi ki 0, vi ki d] 111
 have lt1_0 := (bo1 K1).1
 have lt1_1 := (bo2 K1).1
 have lt1_2 := (bo3 K1).1
 go_upto_region 2 with fail
 refine bs_to Mz1 ?_
 clear c1_0_0 c1_0_1 c1_1_0 c1_1_1 c1_1_2 c1_1_3 c1_2_0 c1_2_1
 intro W2 K2
 clear Mz1 K1
 obtain ⟨c2_0_0, c2_0_1⟩ := (bo1 K2).c2
 obtain ⟨c2_1_0, c2_1_1⟩ := (bo2 K2).c2
 obtain ⟨c2_2_0, c2_2_1, c2_2_2, c2_2_3⟩ := (bo3 K2).c4
 obtain ⟨c2_3_0, c2_3_1⟩ := (bo4 K2).c2
 go_wp2_with fail
 refine (AD.out _ (hL.out _ K2.out.1)).mono ?_
 rintro e W3 ⟨rfl, hb⟩
 have K3 := bsb K2 hb
 clear c2_0_0 c2_0_1 c2_1_0 c2_1_1 c2_2_0 c2_2_1 c2_2_2 c2_2_3 c2_3_0 c2_3_1
 clear hb K2
 obtain ⟨c3_0_0, c3_0_1⟩ := (bo1 K3).c2
 obtain ⟨c3_1_0, c3_1_1⟩ := (bo2 K3).c2
 obtain ⟨c3_2_0, c3_2_1, c3_2_2, c3_2_3⟩ := (bo3 K3).c4
 obtain ⟨c3_3_0, c3_3_1⟩ := (bo4 K3).c2
 clear c3_0_0 c3_0_1 c3_1_0 c3_1_1 c3_2_0 c3_2_1 c3_2_2 c3_2_3 c3_3_0 c3_3_1
 have r3_0 : W3.cell? ⟨W1.heap.size, 0, none⟩ = some (vi ki 0) := (K3.out.at (W1.heap.size) [vi ki 0, vi ki d] (by simp)).c 0 rfl
 have sr3_0 : W3.frozen? ⟨W1.heap.size, 0, none⟩ = false := (K3.out.at (W1.heap.size) [vi ki 0, vi ki d] (by simp)).f 0 rfl
 have r3_1 : W3.cell? ⟨W1.heap.size, 1, none⟩ = some (vi ki d) := (K3.out.at (W1.heap.size) [vi ki 0, vi ki d] (by simp)).c 1 rfl
 have sr3_1 : W3.frozen? ⟨W1.heap.size, 1, none⟩ = false := (K3.out.at (W1.heap.size) [vi ki 0, vi ki d] (by simp)).f 1 rfl
 have Mz3 : Hid (BS w [(W1.heap.size, [vi ki 0, vi ki d2]), (w.heap.size + 2, [vi ki 0, vi ki 0]), (w.heap.size + 1, [vi ki j, vi ki 0, vi ki D, vi ki U]), (w.heap.size, [vi ki 0, vi ki u])] (W3.setCells (W1.heap.size) 0 [vi ki 0, vi ki d2])) := ((K3.out.perm (l' := [(W1.heap.size, [vi ki 0, vi ki d]), (w.heap.size + 2, [vi ki 0, vi ki 0]), (w.heap.size + 1, [vi ki j, vi ki 0, vi ki D, vi ki U]), (w.heap.size, [vi ki 0, vi ki u])]) (by intro x hx; simp only [List.mem_cons, List.not_mem_nil, or_false] at hx ⊢; rcases hx with h | h | h | h <;> simp [h])).set [vi ki 0, vi ki d2] rfl (by intro x hx; simp only [List.mem_cons, List.not_mem_nil, or_false] at hx; rcases hx with rfl | rfl | rfl <;> simp only [] <;> omega))
 simp only [World.setCells, Nat.zero_add] at Mz3
 go_upto_region 6 with fail
 refine gen_to (BS w [(W1.heap.size, [vi ki 0, vi ki d2]), (w.heap.size + 2, [vi ki 0, vi ki 0]), (w.heap.size + 1, [vi ki j, vi ki 0, vi ki D, vi ki U]), (w.heap.size, [vi ki 0, vi ki u])]) Mz3.out ?_
 clear r3_0 sr3_0 r3_1 sr3_1
 intro W4 K4'
 have K4 : Hid (BS w [(W1.heap.size, [vi ki 0, vi ki d2]), (w.heap.size + 2, [vi ki 0, vi ki 0]), (w.heap.size + 1, [vi ki j, vi ki 0, vi ki D, vi ki U]), (w.heap.size, [vi ki 0, vi ki u])] W4) := K4'
 clear K4' Mz3 K3
 obtain ⟨c4_0_0, c4_0_1⟩ := (bo1 K4).c2
 obtain ⟨c4_1_0, c4_1_1⟩ := (bo2 K4).c2
 obtain ⟨z4_1_0, z4_1_1⟩ := (bo2 K4).f2
 obtain ⟨c4_2_0, c4_2_1, c4_2_2, c4_2_3⟩ := (bo3 K4).c4
 obtain ⟨c4_3_0, c4_3_1⟩ := (bo4 K4).c2
 have XF : Hid (Bx (W4.setCells (w.heap.size + 2) 0 [vi ki 0, vi ki 0]) (w.heap.size + 2) [vi ki 0, vi ki 0]) := (K4.out.at (w.heap.size + 2) [vi ki 0, vi ki 0] (by simp)).setAll _ rfl
 have BF : Hid (Below w.heap.size w (W4.setCells (w.heap.size + 2) 0 [vi ki 0, vi ki 0])) := below_setCells (by omega) _ _ _ K4.out.1
 have y0 := XF.out.c 0 rfl
 have y1 := XF.out.c 1 rfl
 simp only [World.setCells, Nat.zero_add] at y0 y1
 clear XF
 go_wp2
 exact bodyPost_ret (v := .tuple #[.agg #[vi ki 0, vi ki 0], vi ki e]) (by simp [results, Tryz.results47, go_sem, y0, y1]) rfl ⟨rfl, BF.out⟩
theorem md_ok (j u M D U d us d1 d2 V E e : Int) (hM : M ≠ 0)
  (OF : Hid (∀ w : World, Cvl.Lens w → Calls Tryz.prog 97 #[.agg #[vi ki 0, vi ki u]] w fun r' w' => r' = zr (.tuple #[.agg #[vi ki 0, vi ki d], vi ki us, vi ki 0]) ∧ Below w.heap.size w w'))
  (SH : Hid (∀ w : World, Cvl.Lens w → Calls Tryz.prog 98 #[.agg #[vi ki 0, vi ki d], vi ki M] w fun r' w' => r' = zr (.tuple #[.agg #[vi ki 0, vi ki d1], vi ki 0]) ∧ Below w.heap.size w w'))
  (AD : Hid (∀ w : World, Cvl.Lens w → Calls Tryz.prog 99 #[.agg #[vi ki 0, vi ki d1], vi ki D] w fun r' w' => r' = zr (.tuple #[.agg #[vi ki 0, vi ki d2], vi ki 0]) ∧ Below w.heap.size w w'))
  (SM : Hid (∀ w : World, Cvl.Lens w → Calls Tryz.prog 100 #[.agg #[vi ki 0, vi ki d2], vi ki us] w fun r' w' => r' = zr (.tuple #[.agg #[vi ki 0, vi ki V], vi ki E]) ∧ Below w.heap.size w w'))
  (w : World) (hL : Hid (∀ W : World, Below w.heap.size w W → Cvl.Lens W)) :
  Calls Tryz.prog 47 #[.agg #[vi ki 0, vi ki u], .agg #[vi ki j, vi ki M, vi ki D, vi ki U]] w fun r' w' => r' = zr (.tuple #[.agg #[vi ki 0, vi ki V], vi ki E]) ∧ Below w.heap.size w w' := by
 have m1 : (M != 0) = true := bne_iff_ne.2 hM
 have K0 := bsn3 w [vi ki 0, vi ki u] 36 [vi ki j, vi ki M, vi ki D, vi ki U] 59 [vi ki 0, vi ki 0] 36
 go_enter Tryz.func47, Tryz.ntmps47
 go_wp2_with fail
 refine (OF.out _ (hL.out _ K0.out.1)).mono ?_
 rintro e W1 ⟨rfl, hb⟩
 have K1 := bsb K0 hb
 clear hb K0
 obtain ⟨c1_0_0, c1_0_1⟩ := (bo1 K1).c2
 obtain ⟨c1_1_0, c1_1_1, c1_1_2, c1_1_3⟩ := (bo2 K1).c4
 obtain ⟨c1_2_0, c1_2_1⟩ := (bo3 K1).c2
 have Mz1 := bsn K1 [vi ki 0, vi ki d] 111
 have lt1_0 := (bo1 K1).1
 have lt1_1 := (bo2 K1).1
 have lt1_2 := (bo3 K1).1
 go_upto_region 2 with fail
 refine bs_to Mz1 ?_
 clear c1_0_0 c1_0_1 c1_1_0 c1_1_1 c1_1_2 c1_1_3 c1_2_0 c1_2_1
 intro W2 K2
 clear Mz1 K1
 obtain ⟨c2_0_0, c2_0_1⟩ := (bo1 K2).c2
 obtain ⟨c2_1_0, c2_1_1⟩ := (bo2 K2).c2
 obtain ⟨c2_2_0, c2_2_1, c2_2_2, c2_2_3⟩ := (bo3 K2).c4
 obtain ⟨c2_3_0, c2_3_1⟩ := (bo4 K2).c2
 go_wp2_with fail
 refine (SH.out _ (hL.out _ K2.out.1)).mono ?_
 rintro e W3 ⟨rfl, hb⟩
 have K3 := bsb K2 hb
 clear c2_0_0 c2_0_1 c2_1_0 c2_1_1 c2_2_0 c2_2_1 c2_2_2 c2_2_3 c2_3_0 c2_3_1
 clear hb K2
 obtain ⟨c3_0_0, c3_0_1⟩ := (bo1 K3).c2
 obtain ⟨c3_1_0, c3_1_1⟩ := (bo2 K3).c2
 obtain ⟨c3_2_0, c3_2_1, c3_2_2, c3_2_3⟩ := (bo3 K3).c4
 obtain ⟨c3_3_0, c3_3_1⟩ := (bo4 K3).c2
 clear c3_0_0 c3_0_1 c3_1_0 c3_1_1 c3_2_0 c3_2_1 c3_2_2 c3_2_3 c3_3_0 c3_3_1
 have r3_0 : W3.cell? ⟨W1.heap.size, 0, none⟩ = some (vi ki 0) := (K3.out.at (W1.heap.size) [vi ki 0, vi ki d] (by simp)).c 0 rfl
 have sr3_0 : W3.frozen? ⟨W1.heap.size, 0, none⟩ = false := (K3.out.at (W1.heap.size) [vi ki 0, vi ki d] (by simp)).f 0 rfl
 have r3_1 : W3.cell? ⟨W1.heap.size, 1, none⟩ = some (vi ki d) := (K3.out.at (W1.heap.size) [vi ki 0, vi ki d] (by simp)).c 1 rfl
 have sr3_1 : W3.frozen? ⟨W1.heap.size, 1, none⟩ = false := (K3.out.at (W1.heap.size) [vi ki 0, vi ki d] (by simp)).f 1 rfl
 have Mz3 : Hid (BS w [(W1.heap.size, [vi ki 0, vi ki d1]), (w.heap.size + 2, [vi ki 0, vi ki 0]), (w.heap.size + 1, [vi ki j, vi ki M, vi ki D, vi ki U]), (w.heap.size, [vi ki 0, vi ki u])] (W3.setCells (W1.heap.size) 0 [vi ki 0, vi ki d1])) := ((K3.out.perm (l' := [(W1.heap.size, [vi ki 0, vi ki d]), (w.heap.size + 2, [vi ki 0, vi ki 0]), (w.heap.size + 1, [vi ki j, vi ki M, vi ki D, vi ki U]), (w.heap.size, [vi ki 0, vi ki u])]) (by intro x hx; simp only [List.mem_cons, List.not_mem_nil, or_false] at hx ⊢; rcases hx with h | h | h | h <;> simp [h])).set [vi ki 0, vi ki d1] rfl (by intro x hx; simp only [List.mem_cons, List.not_mem_nil, or_false] at hx; rcases hx with rfl | rfl | rfl <;> simp only [] <;> omega))
 simp only [World.setCells, Nat.zero_add] at Mz3
 go_upto_region 4 with fail
 refine gen_to (BS w [(W1.heap.size, [vi ki 0, vi ki d1]), (w.heap.size + 2, [vi ki 0, vi ki 0]), (w.heap.size + 1, [vi ki j, vi ki M, vi ki D, vi ki U]), (w.heap.size, [vi ki 0, vi ki u])]) Mz3.out ?_
 clear r3_0 sr3_0 r3_1 sr3_1
 intro W4 K4'
 have K4 : Hid (BS w [(W1.heap.size, [vi ki 0, vi ki d1]), (w.heap.size + 2, [vi ki 0, vi ki 0]), (w.heap.size + 1, [vi ki j, vi ki M, vi ki D, vi ki U]), (w.heap.size, [vi ki 0, vi ki u])] W4) := K4'
 clear K4' Mz3 K3
 obtain ⟨c4_0_0, c4_0_1⟩ := (bo1 K4).c2
 obtain ⟨c4_1_0, c4_1_1⟩ := (bo2 K4).c2
 obtain ⟨c4_2_0, c4_2_1, c4_2_2, c4_2_3⟩ := (bo3 K4).c4
 obtain ⟨c4_3_0, c4_3_1⟩ := (bo4 K4).c2
 go_wp2_with fail
 refine (AD.out _ (hL.out _ K4.out.1)).mono ?_
 rintro e W5 ⟨rfl, hb⟩
 have K5 := bsb K4 hb
 clear c4_0_0 c4_0_1 c4_1_0 c4_1_1 c4_2_0 c4_2_1 c4_2_2 c4_2_3 c4_3_0 c4_3_1
 clear hb K4
 obtain ⟨c5_0_0, c5_0_1⟩ := (bo1 K5).c2
 obtain ⟨c5_1_0, c5_1_1⟩ := (bo2 K5).c2
 obtain ⟨c5_2_0, c5_2_1, c5_2_2, c5_2_3⟩ := (bo3 K5).c4
 obtain ⟨c5_3_0, c5_3_1⟩ := (bo4 K5).c2
 clear c5_0_0 c5_0_1 c5_1_0 c5_1_1 c5_2_0 c5_2_1 c5_2_2 c5_2_3 c5_3_0 c5_3_1
 have r5_0 : W5.cell? ⟨W1.heap.size, 0, none⟩ = some (vi ki 0) := (K5.out.at (W1.heap.size) [vi ki 0, vi ki d1] (by simp)).c 0 rfl
 have sr5_0 : W5.frozen? ⟨W1.heap.size, 0, none⟩ = false := (K5.out.at (W1.heap.size) [vi ki 0, vi ki d1] (by simp)).f 0 rfl
 have r5_1 : W5.cell? ⟨W1.heap.size, 1, none⟩ = some (vi ki d1) := (K5.out.at (W1.heap.size) [vi ki 0, vi ki d1] (by simp)).c 1 rfl
 have sr5_1 : W5.frozen? ⟨W1.heap.size, 1, none⟩ = false := (K5.out.at (W1.heap.size) [vi ki 0, vi ki d1] (by simp)).f 1 rfl
 have Mz5 : Hid (BS w [(W1.heap.size, [vi ki 0, vi ki d2]), (w.heap.size + 2, [vi ki 0, vi ki 0]), (w.heap.size + 1, [vi ki j, vi ki M, vi ki D, vi ki U]), (w.heap.size, [vi ki 0, vi ki u])] (W5.setCells (W1.heap.size) 0 [vi ki 0, vi ki d2])) := ((K5.out.perm (l' := [(W1.heap.size, [vi ki 0, vi ki d1]), (w.heap.size + 2, [vi ki 0, vi ki 0]), (w.heap.size + 1, [vi ki j, vi ki M, vi ki D, vi ki U]), (w.heap.size, [vi ki 0, vi ki u])]) (by intro x hx; simp only [List.mem_cons, List.not_mem_nil, or_false] at hx ⊢; rcases hx with h | h | h | h <;> simp [h])).set [vi ki 0, vi ki d2] rfl (by intro x hx; simp only [List.mem_cons, List.not_mem_nil, or_false] at hx; rcases hx with rfl | rfl | rfl <;> simp only [] <;> omega))
 simp only [World.setCells, Nat.zero_add] at Mz5
 go_upto_region 6 with fail
 refine gen_to (BS w [(W1.heap.size, [vi ki 0, vi ki d2]), (w.heap.size + 2, [vi ki 0, vi ki 0]), (w.heap.size + 1, [vi ki j, vi ki M, vi ki D, vi ki U]), (w.heap.size, [vi ki 0, vi ki u])]) Mz5.out ?_
 clear r5_0 sr5_0 r5_1 sr5_1
 intro W6 K6'
 have K6 : Hid (BS w [(W1.heap.size, [vi ki 0, vi ki d2]), (w.heap.size + 2, [vi ki 0, vi ki 0]), (w.heap.size + 1, [vi ki j, vi ki M, vi ki D, vi ki U]), (w.heap.size, [vi ki 0, vi ki u])] W6) := K6'
 clear K6' Mz5 K5
 obtain ⟨c6_0_0, c6_0_1⟩ := (bo1 K6).c2
 obtain ⟨c6_1_0, c6_1_1⟩ := (bo2 K6).c2
 obtain ⟨c6_2_0, c6_2_1, c6_2_2, c6_2_3⟩ := (bo3 K6).c4
 obtain ⟨c6_3_0, c6_3_1⟩ := (bo4 K6).c2
 go_wp2_with fail
 refine (SM.out _ (hL.out _ K6.out.1)).mono ?_
 rintro e W7 ⟨rfl, hb⟩
 have K7 := bsb K6 hb
 clear c6_0_0 c6_0_1 c6_1_0 c6_1_1 c6_2_0 c6_2_1 c6_2_2 c6_2_3 c6_3_0 c6_3_1
 clear hb K6
 obtain ⟨c7_0_0, c7_0_1⟩ := (bo1 K7).c2
 obtain ⟨c7_1_0, c7_1_1⟩ := (bo2 K7).c2
 obtain ⟨z7_1_0, z7_1_1⟩ := (bo2 K7).f2
 obtain ⟨c7_2_0, c7_2_1, c7_2_2, c7_2_3⟩ := (bo3 K7).c4
 obtain ⟨c7_3_0, c7_3_1⟩ := (bo4 K7).c2
 have XF : Hid (Bx (W7.setCells (w.heap.size + 2) 0 [vi ki 0, vi ki V]) (w.heap.size + 2) [vi ki 0, vi ki V]) := (K7.out.at (w.heap.size + 2) [vi ki 0, vi ki 0] (by simp)).setAll _ rfl
 have BF : Hid (Below w.heap.size w (W7.setCells (w.heap.size + 2) 0 [vi ki 0, vi ki V])) := below_setCells (by omega) _ _ _ K7.out.1
 have y0 := XF.out.c 0 rfl
 have y1 := XF.out.c 1 rfl
 simp only [World.setCells, Nat.zero_add] at y0 y1
 clear XF
 go_wp2
 exact bodyPost_ret (v := .tuple #[.agg #[vi ki 0, vi ki V], vi ki E]) (by simp [results, Tryz.results47, go_sem, y0, y1]) rfl ⟨rfl, BF.out⟩
theorem md_sh (j u M D U d us d1 d2 V E e : Int) (hM : M ≠ 0) (he : e ≠ 0)
  (OF : Hid (∀ w : World, Cvl.Lens w → Calls Tryz.prog 97 #[.agg #[vi ki 0, vi ki u]] w fun r' w' => r' = zr (.tuple #[.agg #[vi ki 0, vi ki d], vi ki us, vi ki 0]) ∧ Below w.heap.size w w'))
  (SH : Hid (∀ w : World, Cvl.Lens w → Calls Tryz.prog 98 #[.agg #[vi ki 0, vi ki d], vi ki M] w fun r' w' => r' = zr (.tuple #[.agg #[vi ki 0, vi ki d1], vi ki e]) ∧ Below w.heap.size w w'))
  (w : World) (hL : Hid (∀ W : World, Below w.heap.size w W → Cvl.Lens W)) :
  Calls Tryz.prog 47 #[.agg #[vi ki 0, vi ki u], .agg #[vi ki j, vi ki M, vi ki D, vi ki U]] w fun r' w' => r' = zr (.tuple #[.agg #[vi ki 0, vi ki 0], vi ki e]) ∧ Below w.heap.size w w' := by
 have m1 : (M != 0) = true := bne_iff_ne.2 hM
 have e1 : (e != 0) = true := bne_iff_ne.2 he
 have e2 : (e == 0) = false := by simpa using he
 have K0 := bsn3 w [vi ki 0, vi ki u] 36 [vi ki j, vi ki M, vi ki D, vi ki U] 59 [vi ki 0, vi ki 0] 36
 go_enter Tryz.func47, Tryz.ntmps47
 go_wp2_with fail
 refine (OF.out _ (hL.out _ K0.out.1)).mono ?_
 rintro e W1 ⟨rfl, hb⟩
 have K1 := bsb K0 hb
 clear hb K0
 obtain ⟨c1_0_0, c1_0_1⟩ := (bo1 K1).c2
 obtain ⟨c1_1_0, c1_1_1, c1_1_2, c1_1_3⟩ := (bo2 K1).c4
 obtain ⟨c1_2_0, c1_2_1⟩ := (bo3 K1).c2
 have Mz1 := bsn K1 [vi ki 0, vi ki d] 111
 have lt1_0 := (bo1 K1).1
 have lt1_1 := (bo2 K1).1
 have lt1_2 := (bo3 K1).1
 go_upto_region 2 with fail
 refine bs_to Mz1 ?_
 clear c1_0_0 c1_0_1 c1_1_0 c1_1_1 c1_1_2 c1_1_3 c1_2_0 c1_2_1
 intro W2 K2
 clear Mz1 K1
 obtain ⟨c2_0_0, c2_0_1⟩ := (bo1 K2).c2
 obtain ⟨c2_1_0, c2_1_1⟩ := (bo2 K2).c2
 obtain ⟨c2_2_0, c2_2_1, c2_2_2, c2_2_3⟩ := (bo3 K2).c4
 obtain ⟨c2_3_0, c2_3_1⟩ := (bo4 K2).c2
 go_wp2_with fail
 refine (SH.out _ (hL.out _ K2.out.1)).mono ?_
 rintro e W3 ⟨rfl, hb⟩
 have K3 := bsb K2 hb
 clear c2_0_0 c2_0_1 c2_1_0 c2_1_1 c2_2_0 c2_2_1 c2_2_2 c2_2_3 c2_3_0 c2_3_1
 clear hb K2
 obtain ⟨c3_0_0, c3_0_1⟩ := (bo1 K3).c2
 obtain ⟨c3_1_0, c3_1_1⟩ := (bo2 K3).c2
 obtain ⟨c3_2_0, c3_2_1, c3_2_2, c3_2_3⟩ := (bo3 K3).c4
 obtain ⟨c3_3_0, c3_3_1⟩ := (bo4 K3).c2
 clear c3_0_0 c3_0_1 c3_1_0 c3_1_1 c3_2_0 c3_2_1 c3_2_2 c3_2_3 c3_3_0 c3_3_1
 have r3_0 : W3.cell? ⟨W1.heap.size, 0, none⟩ = some (vi ki 0) := (K3.out.at (W1.heap.size) [vi ki 0, vi ki d] (by simp)).c 0 rfl
 have sr3_0 : W3.frozen? ⟨W1.heap.size, 0, none⟩ = false := (K3.out.at (W1.heap.size) [vi ki 0, vi ki d] (by simp)).f 0 rfl
 have r3_1 : W3.cell? ⟨W1.heap.size, 1, none⟩ = some (vi ki d) := (K3.out.at (W1.heap.size) [vi ki 0, vi ki d] (by simp)).c 1 rfl
 have sr3_1 : W3.frozen? ⟨W1.heap.size, 1, none⟩ = false := (K3.out.at (W1.heap.size) [vi ki 0, vi ki d] (by simp)).f 1 rfl
 have Mz3 : Hid (BS w [(W1.heap.size, [vi ki 0, vi ki d1]), (w.heap.size + 2, [vi ki 0, vi ki 0]), (w.heap.size + 1, [vi ki j, vi ki M, vi ki D, vi ki U]), (w.heap.size, [vi ki 0, vi ki u])] (W3.setCells (W1.heap.size) 0 [vi ki 0, vi ki d1])) := ((K3.out.perm (l' := [(W1.heap.size, [vi ki 0, vi ki d]), (w.heap.size + 2, [vi ki 0, vi ki 0]), (w.heap.size + 1, [vi ki j, vi ki M, vi ki D, vi ki U]), (w.heap.size, [vi ki 0, vi ki u])]) (by intro x hx; simp only [List.mem_cons, List.not_mem_nil, or_false] at hx ⊢; rcases hx with h | h | h | h <;> simp [h])).set [vi ki 0, vi ki d1] rfl (by intro x hx; simp only [List.mem_cons, List.not_mem_nil, or_false] at hx; rcases hx with rfl | rfl | rfl <;> simp only [] <;> omega))
 simp only [World.setCells, Nat.zero_add] at Mz3
 go_upto_region 4 with fail
 refine gen_to (BS w [(W1.heap.size, [vi ki 0, vi ki d1]), (w.heap.size + 2, [vi ki 0, vi ki 0]), (w.heap.size + 1, [vi ki j, vi ki M, vi ki D, vi ki U]), (w.heap.size, [vi ki 0, vi ki u])]) Mz3.out ?_
 clear r3_0 sr3_0 r3_1 sr3_1
 intro W4 K4'
 have K4 : Hid (BS w [(W1.heap.size, [vi ki 0, vi ki d1]), (w.heap.size + 2, [vi ki 0, vi ki 0]), (w.heap.size + 1, [vi ki j, vi ki M, vi ki D, vi ki U]), (w.heap.size, [vi ki 0, vi ki u])] W4) := K4'
 clear K4' Mz3 K3
 obtain ⟨c4_0_0, c4_0_1⟩ := (bo1 K4).c2
 obtain ⟨c4_1_0, c4_1_1⟩ := (bo2 K4).c2
 obtain ⟨c4_2_0, c4_2_1, c4_2_2, c4_2_3⟩ := (bo3 K4).c4
 obtain ⟨c4_3_0, c4_3_1⟩ := (bo4 K4).c2
 clear c4_0_0 c4_0_1 c4_1_0 c4_1_1 c4_2_0 c4_2_1 c4_2_2 c4_2_3 c4_3_0 c4_3_1
 obtain ⟨c4_0_0, c4_0_1⟩ := (bo1 K4).c2
 obtain ⟨c4_1_0, c4_1_1⟩ := (bo2 K4).c2
 obtain ⟨z4_1_0, z4_1_1⟩ := (bo2 K4).f2
 obtain ⟨c4_2_0, c4_2_1, c4_2_2, c4_2_3⟩ := (bo3 K4).c4
 obtain ⟨c4_3_0, c4_3_1⟩ := (bo4 K4).c2
 have XF : Hid (Bx (W4.setCells (w.heap.size + 2) 0 [vi ki 0, vi ki 0]) (w.heap.size + 2) [vi ki 0, vi ki 0]) := (K4.out.at (w.heap.size + 2) [vi ki 0, vi ki 0] (by simp)).setAll _ rfl
 have BF : Hid (Below w.heap.size w (W4.setCells (w.heap.size + 2) 0 [vi ki 0, vi ki 0])) := below_setCells (by omega) _ _ _ K4.out.1
 have y0 := XF.out.c 0 rfl
 have y1 := XF.out.c 1 rfl
 simp only [World.setCells, Nat.zero_add] at y0 y1
 clear XF
 go_wp2
 exact bodyPost_ret (v := .tuple #[.agg #[vi ki 0, vi ki 0], vi ki e]) (by simp [results, Tryz.results47, go_sem, y0, y1]) rfl ⟨rfl, BF.out⟩
theorem md_ad (j u M D U d us d1 d2 V E e : Int) (hM : M ≠ 0) (he : e ≠ 0)
  (OF : Hid (∀ w : World, Cvl.Lens w → Calls Tryz.prog 97 #[.agg #[vi ki 0, vi ki u]] w fun r' w' => r' = zr (.tuple #[.agg #[vi ki 0, vi ki d], vi ki us, vi ki 0]) ∧ Below w.heap.size w w'))
  (SH : Hid (∀ w : World, Cvl.Lens w → Calls Tryz.prog 98 #[.agg #[vi ki 0, vi ki d], vi ki M] w fun r' w' => r' = zr (.tuple #[.agg #[vi ki 0, vi ki d1], vi ki 0]) ∧ Below w.heap.size w w'))
  (AD : Hid (∀ w : World, Cvl.Lens w → Calls Tryz.prog 99 #[.agg #[vi ki 0, vi ki d1], vi ki D] w fun r' w' => r' = zr (.tuple #[.agg #[vi ki 0, vi ki d2], vi ki e]) ∧ Below w.heap.size w w'))
  (w : World) (hL : Hid (∀ W : World, Below w.heap.size w W → Cvl.Lens W)) :
  Calls Tryz.prog 47 #[.agg #[vi ki 0, vi ki u], .agg #[vi ki j, vi ki M, vi ki D, vi ki U]] w fun r' w' => r' = zr (.tuple #[.agg #[vi ki 0, vi ki 0], vi ki e]) ∧ Below w.heap.size w w' := by
 have m1 : (M != 0) = true := bne_iff_ne.2 hM
 have e1 : (e != 0) = true := bne_iff_ne.2 he
 have e2 : (e == 0) = false := by simpa using he
 have K0 := bsn3 w [vi ki 0, vi ki u] 36 [vi ki j, vi ki M, vi ki D, vi ki U] 59 [vi ki 0, vi ki 0] 36
 go_enter Tryz.func47, Tryz.ntmps47
 go_wp2_with fail
 refine (OF.out _ (hL.out _ K0.out.1)).mono ?_
 rintro e W1 ⟨rfl, hb⟩
 have K1 := bsb K0 hb
 clear hb K0
 obtain ⟨c1_0_0, c1_0_1⟩ := (bo1 K1).c2
 obtain ⟨c1_1_0, c1_1_1, c1_1_2, c1_1_3⟩ := (bo2 K1).c4
 obtain ⟨c1_2_0, c1_2_1⟩ := (bo3 K1).c2
 have Mz1 := bsn K1 [vi ki 0, vi ki d] 111
 have lt1_0 := (bo1 K1).1
 have lt1_1 := (bo2 K1).1
 have lt1_2 := (bo3 K1).1
 go_upto_region 2 with fail
 refine bs_to Mz1 ?_
 clear c1_0_0 c1_0_1 c1_1_0 c1_1_1 c1_1_2 c1_1_3 c1_2_0 c1_2_1
 intro W2 K2
 clear Mz1 K1
 obtain ⟨c2_0_0, c2_0_1⟩ := (bo1 K2).c2
 obtain ⟨c2_1_0, c2_1_1⟩ := (bo2 K2).c2
 obtain ⟨c2_2_0, c2_2_1, c2_2_2, c2_2_3⟩ := (bo3 K2).c4
 obtain ⟨c2_3_0, c2_3_1⟩ := (bo4 K2).c2
 go_wp2_with fail
 refine (SH.out _ (hL.out _ K2.out.1)).mono ?_
 rintro e W3 ⟨rfl, hb⟩
 have K3 := bsb K2 hb
 clear c2_0_0 c2_0_1 c2_1_0 c2_1_1 c2_2_0 c2_2_1 c2_2_2 c2_2_3 c2_3_0 c2_3_1
 clear hb K2
 obtain ⟨c3_0_0, c3_0_1⟩ := (bo1 K3).c2
 obtain ⟨c3_1_0, c3_1_1⟩ := (bo2 K3).c2
 obtain ⟨c3_2_0, c3_2_1, c3_2_2, c3_2_3⟩ := (bo3 K3).c4
 obtain ⟨c3_3_0, c3_3_1⟩ := (bo4 K3).c2
 clear c3_0_0 c3_0_1 c3_1_0 c3_1_1 c3_2_0 c3_2_1 c3_2_2 c3_2_3 c3_3_0 c3_3_1
 have r3_0 : W3.cell? ⟨W1.heap.size, 0, none⟩ = some (vi ki 0) := (K3.out.at (W1.heap.size) [vi ki 0, vi ki d] (by simp)).c 0 rfl
 have sr3_0 : W3.frozen? ⟨W1.heap.size, 0, none⟩ = false := (K3.out.at (W1.heap.size) [vi ki 0, vi ki d] (by simp)).f 0 rfl
 have r3_1 : W3.cell? ⟨W1.heap.size, 1, none⟩ = some (vi ki d) := (K3.out.at (W1.heap.size) [vi ki 0, vi ki d] (by simp)).c 1 rfl
 have sr3_1 : W3.frozen? ⟨W1.heap.size, 1, none⟩ = false := (K3.out.at (W1.heap.size) [vi ki 0, vi ki d] (by simp)).f 1 rfl
 have Mz3 : Hid (BS w [(W1.heap.size, [vi ki 0, vi ki d1]), (w.heap.size + 2, [vi ki 0, vi ki 0]), (w.heap.size + 1, [vi ki j, vi ki M, vi ki D, vi ki U]), (w.heap.size, [vi ki 0, vi ki u])] (W3.setCells (W1.heap.size) 0 [vi ki 0, vi ki d1])) := ((K3.out.perm (l' := [(W1.heap.size, [vi ki 0, vi ki d]), (w.heap.size + 2, [vi ki 0, vi ki 0]), (w.heap.size + 1, [vi ki j, vi ki M, vi ki D, vi ki U]), (w.heap.size, [vi ki 0, vi ki u])]) (by intro x hx; simp only [List.mem_cons, List.not_mem_nil, or_false] at hx ⊢; rcases hx with h | h | h | h <;> simp [h])).set [vi ki 0, vi ki d1] rfl (by intro x hx; simp only [List.mem_cons, List.not_mem_nil, or_false] at hx; rcases hx with rfl | rfl | rfl <;> simp only [] <;> omega))
 simp only [World.setCells, Nat.zero_add] at Mz3
 go_upto_region 4 with fail
 refine gen_to (BS w [(W1.heap.size, [vi ki 0, vi ki d1]), (w.heap.size + 2, [vi ki 0, vi ki 0]), (w.heap.size + 1, [vi ki j, vi ki M, vi ki D, vi ki U]), (w.heap.size, [vi ki 0, vi ki u])]) Mz3.out ?_
 clear r3_0 sr3_0 r3_1 sr3_1
 intro W4 K4'
 have K4 : Hid (BS w [(W1.heap.size, [vi ki 0, vi ki d1]), (w.heap.size + 2, [vi ki 0, vi ki 0]), (w.heap.size + 1, [vi ki j, vi ki M, vi ki D, vi ki U]), (w.heap.size, [vi ki 0, vi ki u])] W4) := K4'
 clear K4' Mz3 K3
 obtain ⟨c4_0_0, c4_0_1⟩ := (bo1 K4).c2
 obtain ⟨c4_1_0, c4_1_1⟩ := (bo2 K4).c2
 obtain ⟨c4_2_0, c4_2_1, c4_2_2, c4_2_3⟩ := (bo3 K4).c4
 obtain ⟨c4_3_0, c4_3_1⟩ := (bo4 K4).c2
 go_wp2_with fail
 refine (AD.out _ (hL.out _ K4.out.1)).mono ?_
 rintro e W5 ⟨rfl, hb⟩
 have K5 := bsb K4 hb
 clear c4_0_0 c4_0_1 c4_1_0 c4_1_1 c4_2_0 c4_2_1 c4_2_2 c4_2_3 c4_3_0 c4_3_1
 clear hb K4
 obtain ⟨c5_0_0, c5_0_1⟩ := (bo1 K5).c2
 obtain ⟨c5_1_0, c5_1_1⟩ := (bo2 K5).c2
 obtain ⟨c5_2_0, c5_2_1, c5_2_2, c5_2_3⟩ := (bo3 K5).c4
 obtain ⟨c5_3_0, c5_3_1⟩ := (bo4 K5).c2
 clear c5_0_0 c5_0_1 c5_1_0 c5_1_1 c5_2_0 c5_2_1 c5_2_2 c5_2_3 c5_3_0 c5_3_1
 have r5_0 : W5.cell? ⟨W1.heap.size, 0, none⟩ = some (vi ki 0) := (K5.out.at (W1.heap.size) [vi ki 0, vi ki d1] (by simp)).c 0 rfl
 have sr5_0 : W5.frozen? ⟨W1.heap.size, 0, none⟩ = false := (K5.out.at (W1.heap.size) [vi ki 0, vi ki d1] (by simp)).f 0 rfl
 have r5_1 : W5.cell? ⟨W1.heap.size, 1, none⟩ = some (vi ki d1) := (K5.out.at (W1.heap.size) [vi ki 0, vi ki d1] (by simp)).c 1 rfl
 have sr5_1 : W5.frozen? ⟨W1.heap.size, 1, none⟩ = false := (K5.out.at (W1.heap.size) [vi ki 0, vi ki d1] (by simp)).f 1 rfl
 have Mz5 : Hid (BS w [(W1.heap.size, [vi ki 0, vi ki d2]), (w.heap.size + 2, [vi ki 0, vi ki 0]), (w.heap.size + 1, [vi ki j, vi ki M, vi ki D, vi ki U]), (w.heap.size, [vi ki 0, vi ki u])] (W5.setCells (W1.heap.size) 0 [vi ki 0, vi ki d2])) := ((K5.out.perm (l' := [(W1.heap.size, [vi ki 0, vi ki d1]), (w.heap.size + 2, [vi ki 0, vi ki 0]), (w.heap.size + 1, [vi ki j, vi ki M, vi ki D, vi ki U]), (w.heap.size, [vi ki 0, vi ki u])]) (by intro x hx; simp only [List.mem_cons, List.not_mem_nil, or_false] at hx ⊢; rcases hx with h | h | h | h <;> simp [h])).set [vi ki 0, vi ki d2] rfl (by intro x hx; simp only [List.mem_cons, List.not_mem_nil, or_false] at hx; rcases hx with rfl | rfl | rfl <;> simp only [] <;> omega))
 simp only [World.setCells, Nat.zero_add] at Mz5
 go_upto_region 6 with fail
 refine gen_to (BS w [(W1.heap.size, [vi ki 0, vi ki d2]), (w.heap.size + 2, [vi ki 0, vi ki 0]), (w.heap.size + 1, [vi ki j, vi ki M, vi ki D, vi ki U]), (w.heap.size, [vi ki 0, vi ki u])]) Mz5.out ?_
 clear r5_0 sr5_0 r5_1 sr5_1
 intro W6 K6'
 have K6 : Hid (BS w [(W1.heap.size, [vi ki 0, vi ki d2]), (w.heap.size + 2, [vi ki 0, vi ki 0]), (w.heap.size + 1, [vi ki j, vi ki M, vi ki D, vi ki U]), (w.heap.size, [vi ki 0, vi ki u])] W6) := K6'
 clear K6' Mz5 K5
 obtain ⟨c6_0_0, c6_0_1⟩ := (bo1 K6).c2
 obtain ⟨c6_1_0, c6_1_1⟩ := (bo2 K6).c2
 obtain ⟨z6_1_0, z6_1_1⟩ := (bo2 K6).f2
 obtain ⟨c6_2_0, c6_2_1, c6_2_2, c6_2_3⟩ := (bo3 K6).c4
 obtain ⟨c6_3_0, c6_3_1⟩ := (bo4 K6).c2
 have XF : Hid (Bx (W6.setCells (w.heap.size + 2) 0 [vi ki 0, vi ki 0]) (w.heap.size + 2) [vi ki 0, vi ki 0]) := (K6.out.at (w.heap.size + 2) [vi ki 0, vi ki 0] (by simp)).setAll _ rfl
 have BF : Hid (Below w.heap.size w (W6.setCells (w.heap.size + 2) 0 [vi ki 0, vi ki 0])) := below_setCells (by omega) _ _ _ K6.out.1
 have y0 := XF.out.c 0 rfl
 have y1 := XF.out.c 1 rfl
 simp only [World.setCells, Nat.zero_add] at y0 y1
 clear XF
 go_wp2
 exact bodyPost_ret (v := .tuple #[.agg #[vi ki 0, vi ki 0], vi ki e]) (by simp [results, Tryz.results47, go_sem, y0, y1]) rfl ⟨rfl, BF.out⟩
theorem mon_run (i u d us e y m q f : Int) (y1 : -1000000 ≤ y) (y2 : y ≤ 1000000) (m1 : 0 ≤ m) (m2 : m ≤ 100)
  (OF : Hid (∀ w : World, Cvl.Lens w → Calls Tryz.prog 97 #[.agg #[vi ki i, vi ki u]] w fun r' w' => r' = zr (.tuple #[.agg #[vi ki 0, vi ki d], vi ki us, vi ki e]) ∧ Below w.heap.size w w'))
  (PA : Hid (∀ w : World, Cvl.Lens w → Calls Tryz.prog 153 #[.agg #[vi ki 0, vi ki d]] w fun r' w' => r' = zr (.tuple #[vi ki y, vi ki m, vi ki q, vi ki f]) ∧ Below w.heap.size w w'))
  (w : World) (hL : Hid (∀ W : World, Below w.heap.size w W → Cvl.Lens W)) :
  Calls Tryz.prog 138 #[.agg #[vi ki i, vi ki u]] w fun r' w' => r' = zr (vi ki (y * 12 + m)) ∧ Below w.heap.size w w' := by
 have K0 := bsn1 w [vi ki i, vi ki u] 36
 go_enter Tryz.func138, Tryz.ntmps138
 go_wp2_with fail
 refine (OF.out _ (hL.out _ K0.out.1)).mono ?_
 rintro e W1 ⟨rfl, hb⟩
 have K1 := bsb K0 hb
 clear hb K0
 obtain ⟨c1_0_0, c1_0_1⟩ := (bo1 K1).c2
 have Mz1 := bsn K1 [vi ki 0, vi ki d] 111
 have lt1_0 := (bo1 K1).1
 go_upto_region 2 with fail
 refine bs_to Mz1 ?_
 clear c1_0_0 c1_0_1
 intro W2 K2
 clear Mz1 K1
 obtain ⟨c2_0_0, c2_0_1⟩ := (bo1 K2).c2
 obtain ⟨c2_1_0, c2_1_1⟩ := (bo2 K2).c2
 go_wp2_with fail
 refine (PA.out _ (hL.out _ K2.out.1)).mono ?_
 rintro e W3 ⟨rfl, hb⟩
 have K3 := bsb K2 hb
 clear c2_0_0 c2_0_1 c2_1_0 c2_1_1
 clear hb K2
 obtain ⟨c3_0_0, c3_0_1⟩ := (bo1 K3).c2
 obtain ⟨c3_1_0, c3_1_1⟩ := (bo2 K3).c2
 go_wp2
 go_ret
 exact ⟨rfl, K3.out.1⟩
theorem add_no1 (i u j m d n : Int)
  (R : Hid (∀ w : World, Cvl.Lens w → Calls Tryz.prog 32 #[.agg #[vi ki i, vi ki u]] w fun r' w' => r' = zr (.bool false) ∧ Below w.heap.size w w'))
  (w : World) (hL : Hid (∀ W : World, Below w.heap.size w W → Cvl.Lens W)) :
  Calls Tryz.prog 17 #[.agg #[vi ki i, vi ki u], .agg #[vi ki j, vi ki m, vi ki d, vi ki n]] w fun r' w' => r' = zr (.tuple #[.agg #[vi ki 0, vi ki 0], vi ki 1]) ∧ Below w.heap.size w w' := by
 have K0 := bsn3 w [vi ki i, vi ki u] 36 [vi ki j, vi ki m, vi ki d, vi ki n] 59 [vi ki 0, vi ki 0] 36
 go_enter Tryz.func17, Tryz.ntmps17
 go_wp2_with fail
 refine (R.out _ (hL.out _ K0.out.1)).mono ?_
 rintro e W1 ⟨rfl, hb⟩
 have K1 := bsb K0 hb
 clear hb K0
 obtain ⟨c1_0_0, c1_0_1⟩ := (bo1 K1).c2
 obtain ⟨z1_0_0, z1_0_1⟩ := (bo1 K1).f2
 obtain ⟨c1_1_0, c1_1_1, c1_1_2, c1_1_3⟩ := (bo2 K1).c4
 obtain ⟨c1_2_0, c1_2_1⟩ := (bo3 K1).c2
 have XF : Hid (Bx (W1.setCells (w.heap.size + 2) 0 [vi ki 0, vi ki 0]) (w.heap.size + 2) [vi ki 0, vi ki 0]) := (K1.out.at (w.heap.size + 2) [vi ki 0, vi ki 0] (by simp)).setAll _ rfl
 have BF : Hid (Below w.heap.size w (W1.setCells (w.heap.size + 2) 0 [vi ki 0, vi ki 0])) := below_setCells (by omega) _ _ _ K1.out.1
 have y0 := XF.out.c 0 rfl
 have y1 := XF.out.c 1 rfl
 simp only [World.setCells, Nat.zero_add] at y0 y1
 clear XF
 go_wp2
 exact bodyPost_ret (v := .tuple #[.agg #[vi ki 0, vi ki 0], vi ki 1]) (by simp [results, Tryz.results17, go_sem, y0, y1]) rfl ⟨rfl, BF.out⟩
theorem add_no2 (i u j m d n : Int)
  (R : Hid (∀ w : World, Cvl.Lens w → Calls Tryz.prog 32 #[.agg #[vi ki i, vi ki u]] w fun r' w' => r' = zr (.bool true) ∧ Below w.heap.size w w'))
  (PR : Hid (∀ w : World, Calls Tryz.prog 23 #[.agg #[vi ki j, vi ki m, vi ki d, vi ki n]] w fun r' w' => r' = zr (.bool false) ∧ Below w.heap.size w w'))
  (w : World) (hL : Hid (∀ W : World, Below w.heap.size w W → Cvl.Lens W)) :
  Calls Tryz.prog 17 #[.agg #[vi ki i, vi ki u], .agg #[vi ki j, vi ki m, vi ki d, vi ki n]] w fun r' w' => r' = zr (.tuple #[.agg #[vi ki 0, vi ki 0], vi ki 1]) ∧ Below w.heap.size w w' := by
 have K0 := bsn3 w [vi ki i, vi ki u] 36 [vi ki j, vi ki m, vi ki d, vi ki n] 59 [vi ki 0, vi ki 0] 36
 go_enter Tryz.func17, Tryz.ntmps17
 go_wp2_with fail
 refine (R.out _ (hL.out _ K0.out.1)).mono ?_
 rintro e W1 ⟨rfl, hb⟩
 have K1 := bsb K0 hb
 clear hb K0
 obtain ⟨c1_0_0, c1_0_1⟩ := (bo1 K1).c2
 obtain ⟨c1_1_0, c1_1_1, c1_1_2, c1_1_3⟩ := (bo2 K1).c4
 obtain ⟨c1_2_0, c1_2_1⟩ := (bo3 K1).c2
 go_wp2_with fail
 refine (PR.out _).mono ?_
 rintro e W2 ⟨rfl, hb⟩
 have K2 := bsb K1 hb
 clear c1_0_0 c1_0_1 c1_1_0 c1_1_1 c1_1_2 c1_1_3 c1_2_0 c1_2_1
 clear hb K1
 obtain ⟨c2_0_0, c2_0_1⟩ := (bo1 K2).c2
 obtain ⟨z2_0_0, z2_0_1⟩ := (bo1 K2).f2
 obtain ⟨c2_1_0, c2_1_1, c2_1_2, c2_1_3⟩ := (bo2 K2).c4
 obtain ⟨c2_2_0, c2_2_1⟩ := (bo3 K2).c2
 have XF : Hid (Bx (W2.setCells (w.heap.size + 2) 0 [vi ki 0, vi ki 0]) (w.heap.size + 2) [vi ki 0, vi ki 0]) := (K2.out.at (w.heap.size + 2) [vi ki 0, vi ki 0] (by simp)).setAll _ rfl
 have BF : Hid (Below w.heap.size w (W2.setCells (w.heap.size + 2) 0 [vi ki 0, vi ki 0])) := below_setCells (by omega) _ _ _ K2.out.1
 have y0 := XF.out.c 0 rfl
 have y1 := XF.out.c 1 rfl
 simp only [World.setCells, Nat.zero_add] at y0 y1
 clear XF
 go_wp2
 exact bodyPost_ret (v := .tuple #[.agg #[vi ki 0, vi ki 0], vi ki 1]) (by simp [results, Tryz.results17, go_sem, y0, y1]) rfl ⟨rfl, BF.out⟩
theorem add_infi (i u j m d n I E : Int) (ka kb : Value) (h : I ≠ 0)
  (R : Hid (∀ w : World, Cvl.Lens w → Calls Tryz.prog 32 #[.agg #[vi ki i, vi ki u]] w fun r' w' => r' = zr (.bool true) ∧ Below w.heap.size w w'))
  (PR : Hid (∀ w : World, Calls Tryz.prog 23 #[.agg #[vi ki j, vi ki m, vi ki d, vi ki n]] w fun r' w' => r' = zr (.bool true) ∧ Below w.heap.size w w'))
  (KA : Hid (∀ w : World, Calls Tryz.prog 46 #[vi ki i] w fun r' w' => r' = zr (ka) ∧ Below w.heap.size w w'))
  (KB : Hid (∀ w : World, Calls Tryz.prog 46 #[vi ki j] w fun r' w' => r' = zr (kb) ∧ Below w.heap.size w w'))
  (TG : Hid (∀ w : World, Calls Tryz.prog 45 #[ka, kb] w fun r' w' => r' = zr (.tuple #[vi ki I, vi ki E]) ∧ Below w.heap.size w w'))
  (w : World) (hL : Hid (∀ W : World, Below w.heap.size w W → Cvl.Lens W)) :
  Calls Tryz.prog 17 #[.agg #[vi ki i, vi ki u], .agg #[vi ki j, vi ki m, vi ki d, vi ki n]] w fun r' w' => r' = zr (.tuple #[.agg #[vi ki I, vi ki 0], vi ki E]) ∧ Below w.heap.size w w' := by
 have h1 : (I != 0) = true := bne_iff_ne.2 h
 have K0 := bsn3 w [vi ki i, vi ki u] 36 [vi ki j, vi ki m, vi ki d, vi ki n] 59 [vi ki 0, vi ki 0] 36
 go_enter Tryz.func17, Tryz.ntmps17
 go_wp2_with fail
 refine (R.out _ (hL.out _ K0.out.1)).mono ?_
 rintro e W1 ⟨rfl, hb⟩
 have K1 := bsb K0 hb
 clear hb K0
 obtain ⟨c1_0_0, c1_0_1⟩ := (bo1 K1).c2
 obtain ⟨c1_1_0, c1_1_1, c1_1_2, c1_1_3⟩ := (bo2 K1).c4
 obtain ⟨c1_2_0, c1_2_1⟩ := (bo3 K1).c2
 go_wp2_with fail
 refine (PR.out _).mono ?_
 rintro e W2 ⟨rfl, hb⟩
 have K2 := bsb K1 hb
 clear c1_0_0 c1_0_1 c1_1_0 c1_1_1 c1_1_2 c1_1_3 c1_2_0 c1_2_1
 clear hb K1
 obtain ⟨c2_0_0, c2_0_1⟩ := (bo1 K2).c2
 obtain ⟨c2_1_0, c2_1_1, c2_1_2, c2_1_3⟩ := (bo2 K2).c4
 obtain ⟨c2_2_0, c2_2_1⟩ := (bo3 K2).c2
 go_wp2_with fail
 go_cut [6, 7] (fun v0 v1 wx => v0 = vi ki I ∧ v1 = vi ki E ∧ Hid (BS w [(w.heap.size + 2, [vi ki 0, vi ki 0]), (w.heap.size + 1, [vi ki j, vi ki m, vi ki d, vi ki n]), (w.heap.size, [vi ki i, vi ki u])] wx))
 case first =>
  refine wp_region_held_drew (S := BS w [(w.heap.size + 2, [vi ki 0, vi ki 0]), (w.heap.size + 1, [vi ki j, vi ki m, vi ki d, vi ki n]), (w.heap.size, [vi ki i, vi ki u])]) (by kernel_rfl) K2.out.drew (fun hHeld => ?_)
  refine tks 0 ⟨some 20, _, _, _, _, none⟩ rfl ?_
  simp only [za, zb, zc, zd]
  refine tk (v := ?_) 1 ⟨some 21, _, _, _, _, none⟩ rfl ?_ ?_
  case refine_2 => (intro w9 hSw; obtain ⟨l0_0, l0_1⟩ := (hSw.at (w.heap.size + 2) [vi ki 0, vi ki 0] (by simp)).c2; obtain ⟨l1_0, l1_1, l1_2, l1_3⟩ := (hSw.at (w.heap.size + 1) [vi ki j, vi ki m, vi ki d, vi ki n] (by simp)).c4; obtain ⟨l2_0, l2_1⟩ := (hSw.at (w.heap.size) [vi ki i, vi ki u] (by simp)).c2; clear hSw; go_simp; try with_reducible rfl)
  simp only [za, zb, zc, zd]
  refine tks 3 ⟨some 23, _, _, _, _, none⟩ rfl ?_
  simp only [za, zb, zc, zd]
  refine tk (v := ?_) 4 ⟨some 24, _, _, _, _, none⟩ rfl ?_ ?_
  case refine_2 => (intro w9 hSw; obtain ⟨l0_0, l0_1⟩ := (hSw.at (w.heap.size + 2) [vi ki 0, vi ki 0] (by simp)).c2; obtain ⟨l1_0, l1_1, l1_2, l1_3⟩ := (hSw.at (w.heap.size + 1) [vi ki j, vi ki m, vi ki d, vi ki n] (by simp)).c4; obtain ⟨l2_0, l2_1⟩ := (hSw.at (w.heap.size) [vi ki i, vi ki u] (by simp)).c2; clear hSw; go_simp; try with_reducible rfl)
  simp only [za, zb, zc, zd]
  refine rd 2 ⟨some 22, _, _, _, _, none⟩ rfl (fun K hK => ?_)
  go_simp
  refine (KA.out _).mono ?_
  rintro e v1 ⟨rfl, hb1⟩
  refine hK.out _ _ (hHeld.below hb1) (fun hHeld => ?_)
  clear hK K hb1
  refine rd 5 ⟨some 25, _, _, _, _, none⟩ rfl (fun K hK => ?_)
  go_simp
  refine (KB.out _).mono ?_
  rintro e v2 ⟨rfl, hb2⟩
  refine hK.out _ _ (hHeld.below hb2) (fun hHeld => ?_)
  clear hK K hb2
  refine rd 6 ⟨some 26, _, _, _, _, none⟩ rfl (fun K hK => ?_)
  go_simp
  refine (TG.out _).mono ?_
  rintro e v3 ⟨rfl, hb3⟩
  refine hK.out _ _ (hHeld.below hb3) (fun hHeld => ?_)
  clear hK K hb3
  refine tks 7 ⟨some 19, _, _, _, _, none⟩ rfl ?_
  simp only [za, zb, zc, zd]
  refine tks 8 ⟨some 27, _, _, _, _, none⟩ rfl ?_
  simp only [za, zb, zc, zd]
  refine tks 9 ⟨some 28, _, _, _, _, none⟩ rfl ?_
  simp only [za, zb, zc, zd]
  refine tks 10 ⟨some 6, _, _, _, _, none⟩ rfl ?_
  simp only [za, zb, zc, zd]
  refine tks 11 ⟨some 7, _, _, _, _, none⟩ rfl ?_
  simp only [za, zb, zc, zd]
  refine wpAnyH_done (by kernel_rfl) ?_ _
  go_wp2_with fail
  go_meet
  case rel => exact ⟨rfl, rfl, hHeld⟩
 case rest =>
  clear c2_0_0 c2_0_1 c2_1_0 c2_1_1 c2_1_2 c2_1_3 c2_2_0 c2_2_1
  obtain ⟨rfl, rfl, K3⟩ := hcut
  clear K2
  skip
  obtain ⟨c3_0_0, c3_0_1⟩ := (bo1 K3).c2
  obtain ⟨c3_1_0, c3_1_1, c3_1_2, c3_1_3⟩ := (bo2 K3).c4
  obtain ⟨c3_2_0, c3_2_1⟩ := (bo3 K3).c2
  clear c3_0_0 c3_0_1 c3_1_0 c3_1_1 c3_1_2 c3_1_3 c3_2_0 c3_2_1
  obtain ⟨c3_0_0, c3_0_1⟩ := (bo1 K3).c2
  obtain ⟨z3_0_0, z3_0_1⟩ := (bo1 K3).f2
  obtain ⟨c3_1_0, c3_1_1, c3_1_2, c3_1_3⟩ := (bo2 K3).c4
  obtain ⟨c3_2_0, c3_2_1⟩ := (bo3 K3).c2
  have XF : Hid (Bx (wc.setCells (w.heap.size + 2) 0 [vi ki I, vi ki 0]) (w.heap.size + 2) [vi ki I, vi ki 0]) := (K3.out.at (w.heap.size + 2) [vi ki 0, vi ki 0] (by simp)).setAll _ rfl
  have BF : Hid (Below w.heap.size w (wc.setCells (w.heap.size + 2) 0 [vi ki I, vi ki 0])) := below_setCells (by omega) _ _ _ K3.out.1
  have y0 := XF.out.c 0 rfl
  have y1 := XF.out.c 1 rfl
  simp only [World.setCells, Nat.zero_add] at y0 y1
  clear XF
  go_wp2
  exact bodyPost_ret (v := .tuple #[.agg #[vi ki I, vi ki 0], vi ki E]) (by simp [results, Tryz.results17, go_sem, y0, y1]) rfl ⟨rfl, BF.out⟩
theorem add_infe (i u j m d n E : Int) (ka kb : Value) (h : E ≠ 0)
  (R : Hid (∀ w : World, Cvl.Lens w → Calls Tryz.prog 32 #[.agg #[vi ki i, vi ki u]] w fun r' w' => r' = zr (.bool true) ∧ Below w.heap.size w w'))
  (PR : Hid (∀ w : World, Calls Tryz.prog 23 #[.agg #[vi ki j, vi ki m, vi ki d, vi ki n]] w fun r' w' => r' = zr (.bool true) ∧ Below w.heap.size w w'))
  (KA : Hid (∀ w : World, Calls Tryz.prog 46 #[vi ki i] w fun r' w' => r' = zr (ka) ∧ Below w.heap.size w w'))
  (KB : Hid (∀ w : World, Calls Tryz.prog 46 #[vi ki j] w fun r' w' => r' = zr (kb) ∧ Below w.heap.size w w'))
  (TG : Hid (∀ w : World, Calls Tryz.prog 45 #[ka, kb] w fun r' w' => r' = zr (.tuple #[vi ki 0, vi ki E]) ∧ Below w.heap.size w w'))
  (w : World) (hL : Hid (∀ W : World, Below w.heap.size w W → Cvl.Lens W)) :
  Calls Tryz.prog 17 #[.agg #[vi ki i, vi ki u], .agg #[vi ki j, vi ki m, vi ki d, vi ki n]] w fun r' w' => r' = zr (.tuple #[.agg #[vi ki 0, vi ki 0], vi ki E]) ∧ Below w.heap.size w w' := by
 have h1 : (E != 0) = true := bne_iff_ne.2 h
 have K0 := bsn3 w [vi ki i, vi ki u] 36 [vi ki j, vi ki m, vi ki d, vi ki n] 59 [vi ki 0, vi ki 0] 36
 go_enter Tryz.func17, Tryz.ntmps17
 go_wp2_with fail
 refine (R.out _ (hL.out _ K0.out.1)).mono ?_
 rintro e W1 ⟨rfl, hb⟩
 have K1 := bsb K0 hb
 clear hb K0
 obtain ⟨c1_0_0, c1_0_1⟩ := (bo1 K1).c2
 obtain ⟨c1_1_0, c1_1_1, c1_1_2, c1_1_3⟩ := (bo2 K1).c4
 obtain ⟨c1_2_0, c1_2_1⟩ := (bo3 K1).c2
 go_wp2_with fail
 refine (PR.out _).mono ?_
 rintro e W2 ⟨rfl, hb⟩
 have K2 := bsb K1 hb
 clear c1_0_0 c1_0_1 c1_1_0 c1_1_1 c1_1_2 c1_1_3 c1_2_0 c1_2_1
 clear hb K1
 obtain ⟨c2_0_0, c2_0_1⟩ := (bo1 K2).c2
 obtain ⟨c2_1_0, c2_1_1, c2_1_2, c2_1_3⟩ := (bo2 K2).c4
 obtain ⟨c2_2_0, c2_2_1⟩ := (bo3 K2).c2
 go_wp2_with fail
 go_cut [6, 7] (fun v0 v1 wx => v0 = vi ki 0 ∧ v1 = vi ki E ∧ Hid (BS w [(w.heap.size + 2, [vi ki 0, vi ki 0]), (w.heap.size + 1, [vi ki j, vi ki m, vi ki d, vi ki n]), (w.heap.size, [vi ki i, vi ki u])] wx))
 case first =>
  refine wp_region_held_drew (S := BS w [(w.heap.size + 2, [vi ki 0, vi ki 0]), (w.heap.size + 1, [vi ki j, vi ki m, vi ki d, vi ki n]), (w.heap.size, [vi ki i, vi ki u])]) (by kernel_rfl) K2.out.drew (fun hHeld => ?_)
  refine tks 0 ⟨some 20, _, _, _, _, none⟩ rfl ?_
  simp only [za, zb, zc, zd]
  refine tk (v := ?_) 1 ⟨some 21, _, _, _, _, none⟩ rfl ?_ ?_
  case refine_2 => (intro w9 hSw; obtain ⟨l0_0, l0_1⟩ := (hSw.at (w.heap.size + 2) [vi ki 0, vi ki 0] (by simp)).c2; obtain ⟨l1_0, l1_1, l1_2, l1_3⟩ := (hSw.at (w.heap.size + 1) [vi ki j, vi ki m, vi ki d, vi ki n] (by simp)).c4; obtain ⟨l2_0, l2_1⟩ := (hSw.at (w.heap.size) [vi ki i, vi ki u] (by simp)).c2; clear hSw; go_simp; try with_reducible rfl)
  simp only [za, zb, zc, zd]
  refine tks 3 ⟨some 23, _, _, _, _, none⟩ rfl ?_
  simp only [za, zb, zc, zd]
  refine tk (v := ?_) 4 ⟨some 24, _, _, _, _, none⟩ rfl ?_ ?_
  case refine_2 => (intro w9 hSw; obtain ⟨l0_0, l0_1⟩ := (hSw.at (w.heap.size + 2) [vi ki 0, vi ki 0] (by simp)).c2; obtain ⟨l1_0, l1_1, l1_2, l1_3⟩ := (hSw.at (w.heap.size + 1) [vi ki j, vi ki m, vi ki d, vi ki n] (by simp)).c4; obtain ⟨l2_0, l2_1⟩ := (hSw.at (w.heap.size) [vi ki i, vi ki u] (by simp)).c2; clear hSw; go_simp; try with_reducible rfl)
  simp only [za, zb, zc, zd]
  refine rd 2 ⟨some 22, _, _, _, _, none⟩ rfl (fun K hK => ?_)
  go_simp
  refine (KA.out _).mono ?_
  rintro e v1 ⟨rfl, hb1⟩
  refine hK.out _ _ (hHeld.below hb1) (fun hHeld => ?_)
  clear hK K hb1
  refine rd 5 ⟨some 25, _, _, _, _, none⟩ rfl (fun K hK => ?_)
  go_simp
  refine (KB.out _).mono ?_
  rintro e v2 ⟨rfl, hb2⟩
  refine hK.out _ _ (hHeld.below hb2) (fun hHeld => ?_)
  clear hK K hb2
  refine rd 6 ⟨some 26, _, _, _, _, none⟩ rfl (fun K hK => ?_)
  go_simp
  refine (TG.out _).mono ?_
  rintro e v3 ⟨rfl, hb3⟩
  refine hK.out _ _ (hHeld.below hb3) (fun hHeld => ?_)
  clear hK K hb3
  refine tks 7 ⟨some 19, _, _, _, _, none⟩ rfl ?_
  simp only [za, zb, zc, zd]
  refine tks 8 ⟨some 27, _, _, _, _, none⟩ rfl ?_
  simp only [za, zb, zc, zd]
  refine tks 9 ⟨some 28, _, _, _, _, none⟩ rfl ?_
  simp only [za, zb, zc, zd]
  refine tks 10 ⟨some 6, _, _, _, _, none⟩ rfl ?_
  simp only [za, zb, zc, zd]
  refine tks 11 ⟨some 7, _, _, _, _, none⟩ rfl ?_
  simp only [za, zb, zc, zd]
  refine wpAnyH_done (by kernel_rfl) ?_ _
  go_wp2_with fail
  go_meet
  case rel => exact ⟨rfl, rfl, hHeld⟩
 case rest =>
  clear c2_0_0 c2_0_1 c2_1_0 c2_1_1 c2_1_2 c2_1_3 c2_2_0 c2_2_1
  obtain ⟨rfl, rfl, K3⟩ := hcut
  clear K2
  skip
  obtain ⟨c3_0_0, c3_0_1⟩ := (bo1 K3).c2
  obtain ⟨c3_1_0, c3_1_1, c3_1_2, c3_1_3⟩ := (bo2 K3).c4
  obtain ⟨c3_2_0, c3_2_1⟩ := (bo3 K3).c2
  clear c3_0_0 c3_0_1 c3_1_0 c3_1_1 c3_1_2 c3_1_3 c3_2_0 c3_2_1
  obtain ⟨c3_0_0, c3_0_1⟩ := (bo1 K3).c2
  obtain ⟨z3_0_0, z3_0_1⟩ := (bo1 K3).f2
  obtain ⟨c3_1_0, c3_1_1, c3_1_2, c3_1_3⟩ := (bo2 K3).c4
  obtain ⟨c3_2_0, c3_2_1⟩ := (bo3 K3).c2
  have XF : Hid (Bx (wc.setCells (w.heap.size + 2) 0 [vi ki 0, vi ki 0]) (w.heap.size + 2) [vi ki 0, vi ki 0]) := (K3.out.at (w.heap.size + 2) [vi ki 0, vi ki 0] (by simp)).setAll _ rfl
  have BF : Hid (Below w.heap.size w (wc.setCells (w.heap.size + 2) 0 [vi ki 0, vi ki 0])) := below_setCells (by omega) _ _ _ K3.out.1
  have y0 := XF.out.c 0 rfl
  have y1 := XF.out.c 1 rfl
  simp only [World.setCells, Nat.zero_add] at y0 y1
  clear XF
  go_wp2
  exact bodyPost_ret (v := .tuple #[.agg #[vi ki 0, vi ki 0], vi ki E]) (by simp [results, Tryz.results17, go_sem, y0, y1]) rfl ⟨rfl, BF.out⟩
theorem add_err (i u j m d n V e : Int) (ka kb : Value) (he : e ≠ 0)
  (R : Hid (∀ w : World, Cvl.Lens w → Calls Tryz.prog 32 #[.agg #[vi ki i, vi ki u]] w fun r' w' => r' = zr (.bool true) ∧ Below w.heap.size w w'))
  (PR : Hid (∀ w : World, Calls Tryz.prog 23 #[.agg #[vi ki j, vi ki m, vi ki d, vi ki n]] w fun r' w' => r' = zr (.bool true) ∧ Below w.heap.size w w'))
  (KA : Hid (∀ w : World, Calls Tryz.prog 46 #[vi ki i] w fun r' w' => r' = zr (ka) ∧ Below w.heap.size w w'))
  (KB : Hid (∀ w : World, Calls Tryz.prog 46 #[vi ki j] w fun r' w' => r' = zr (kb) ∧ Below w.heap.size w w'))
  (TG : Hid (∀ w : World, Calls Tryz.prog 45 #[ka, kb] w fun r' w' => r' = zr (.tuple #[vi ki 0, vi ki 0]) ∧ Below w.heap.size w w'))
  (MD : Hid (∀ w : World, Cvl.Lens w → Calls Tryz.prog 47 #[.agg #[vi ki i, vi ki u], .agg #[vi ki j, vi ki m, vi ki d, vi ki n]] w fun r' w' => r' = zr (.tuple #[.agg #[vi ki 0, vi ki V], vi ki e]) ∧ Below w.heap.size w w'))
  (w : World) (hL : Hid (∀ W : World, Below w.heap.size w W → Cvl.Lens W)) :
  Calls Tryz.prog 17 #[.agg #[vi ki i, vi ki u], .agg #[vi ki j, vi ki m, vi ki d, vi ki n]] w fun r' w' => r' = zr (.tuple #[.agg #[vi ki 0, vi ki 0], vi ki e]) ∧ Below w.heap.size w w' := by
 have e1 : (e != 0) = true := bne_iff_ne.2 he
 have K0 := bsn3 w [vi ki i, vi ki u] 36 [vi ki j, vi ki m, vi ki d, vi ki n] 59 [vi ki 0, vi ki 0] 36
 go_enter Tryz.func17, Tryz.ntmps17
 go_wp2_with fail
 refine (R.out _ (hL.out _ K0.out.1)).mono ?_
 rintro e W1 ⟨rfl, hb⟩
 have K1 := bsb K0 hb
 clear hb K0
 obtain ⟨c1_0_0, c1_0_1⟩ := (bo1 K1).c2
 obtain ⟨c1_1_0, c1_1_1, c1_1_2, c1_1_3⟩ := (bo2 K1).c4
 obtain ⟨c1_2_0, c1_2_1⟩ := (bo3 K1).c2
 go_wp2_with fail
 refine (PR.out _).mono ?_
 rintro e W2 ⟨rfl, hb⟩
 have K2 := bsb K1 hb
 clear c1_0_0 c1_0_1 c1_1_0 c1_1_1 c1_1_2 c1_1_3 c1_2_0 c1_2_1
 clear hb K1
 obtain ⟨c2_0_0, c2_0_1⟩ := (bo1 K2).c2
 obtain ⟨c2_1_0, c2_1_1, c2_1_2, c2_1_3⟩ := (bo2 K2).c4
 obtain ⟨c2_2_0, c2_2_1⟩ := (bo3 K2).c2
 go_wp2_with fail
 go_cut [6, 7] (fun v0 v1 wx => v0 = vi ki 0 ∧ v1 = vi ki 0 ∧ Hid (BS w [(w.heap.size + 2, [vi ki 0, vi ki 0]), (w.heap.size + 1, [vi ki j, vi ki m, vi ki d, vi ki n]), (w.heap.size, [vi ki i, vi ki u])] wx))
 case first =>
  refine wp_region_held_drew (S := BS w [(w.heap.size + 2, [vi ki 0, vi ki 0]), (w.heap.size + 1, [vi ki j, vi ki m, vi ki d, vi ki n]), (w.heap.size, [vi ki i, vi ki u])]) (by kernel_rfl) K2.out.drew (fun hHeld => ?_)
  refine tks 0 ⟨some 20, _, _, _, _, none⟩ rfl ?_
  simp only [za, zb, zc, zd]
  refine tk (v := ?_) 1 ⟨some 21, _, _, _, _, none⟩ rfl ?_ ?_
  case refine_2 => (intro w9 hSw; obtain ⟨l0_0, l0_1⟩ := (hSw.at (w.heap.size + 2) [vi ki 0, vi ki 0] (by simp)).c2; obtain ⟨l1_0, l1_1, l1_2, l1_3⟩ := (hSw.at (w.heap.size + 1) [vi ki j, vi ki m, vi ki d, vi ki n] (by simp)).c4; obtain ⟨l2_0, l2_1⟩ := (hSw.at (w.heap.size) [vi ki i, vi ki u] (by simp)).c2; clear hSw; go_simp; try with_reducible rfl)
  simp only [za, zb, zc, zd]
  refine tks 3 ⟨some 23, _, _, _, _, none⟩ rfl ?_
  simp only [za, zb, zc, zd]
  refine tk (v := ?_) 4 ⟨some 24, _, _, _, _, none⟩ rfl ?_ ?_
  case refine_2 => (intro w9 hSw; obtain ⟨l0_0, l0_1⟩ := (hSw.at (w.heap.size + 2) [vi ki 0, vi ki 0] (by simp)).c2; obtain ⟨l1_0, l1_1, l1_2, l1_3⟩ := (hSw.at (w.heap.size + 1) [vi ki j, vi ki m, vi ki d, vi ki n] (by simp)).c4; obtain ⟨l2_0, l2_1⟩ := (hSw.at (w.heap.size) [vi ki i, vi ki u] (by simp)).c2; clear hSw; go_simp; try with_reducible rfl)
  simp only [za, zb, zc, zd]
  refine rd 2 ⟨some 22, _, _, _, _, none⟩ rfl (fun K hK => ?_)
  go_simp
  refine (KA.out _).mono ?_
  rintro e v1 ⟨rfl, hb1⟩
  refine hK.out _ _ (hHeld.below hb1) (fun hHeld => ?_)
  clear hK K hb1
  refine rd 5 ⟨some 25, _, _, _, _, none⟩ rfl (fun K hK => ?_)
  go_simp
  refine (KB.out _).mono ?_
  rintro e v2 ⟨rfl, hb2⟩
  refine hK.out _ _ (hHeld.below hb2) (fun hHeld => ?_)
  clear hK K hb2
  refine rd 6 ⟨some 26, _, _, _, _, none⟩ rfl (fun K hK => ?_)
  go_simp
  refine (TG.out _).mono ?_
  rintro e v3 ⟨rfl, hb3⟩
  refine hK.out _ _ (hHeld.below hb3) (fun hHeld => ?_)
  clear hK K hb3
  refine tks 7 ⟨some 19, _, _, _, _, none⟩ rfl ?_
  simp only [za, zb, zc, zd]
  refine tks 8 ⟨some 27, _, _, _, _, none⟩ rfl ?_
  simp only [za, zb, zc, zd]
  refine tks 9 ⟨some 28, _, _, _, _, none⟩ rfl ?_
  simp only [za, zb, zc, zd]
  refine tks 10 ⟨some 6, _, _, _, _, none⟩ rfl ?_
  simp only [za, zb, zc, zd]
  refine tks 11 ⟨some 7, _, _, _, _, none⟩ rfl ?_
  simp only [za, zb, zc, zd]
  refine wpAnyH_done (by kernel_rfl) ?_ _
  go_wp2_with fail
  go_meet
  case rel => exact ⟨rfl, rfl, hHeld⟩
 case rest =>
  clear c2_0_0 c2_0_1 c2_1_0 c2_1_1 c2_1_2 c2_1_3 c2_2_0 c2_2_1
  obtain ⟨rfl, rfl, K3⟩ := hcut
  clear K2
  skip
  obtain ⟨c3_0_0, c3_0_1⟩ := (bo1 K3).c2
  obtain ⟨c3_1_0, c3_1_1, c3_1_2, c3_1_3⟩ := (bo2 K3).c4
  obtain ⟨c3_2_0, c3_2_1⟩ := (bo3 K3).c2
  go_wp2_with fail
  refine (MD.out _ (hL.out _ K3.out.1)).mono ?_
  rintro e W4 ⟨rfl, hb⟩
  have K4 := bsb K3 hb
  clear c3_0_0 c3_0_1 c3_1_0 c3_1_1 c3_1_2 c3_1_3 c3_2_0 c3_2_1
  clear hb K3
  obtain ⟨c4_0_0, c4_0_1⟩ := (bo1 K4).c2
  obtain ⟨c4_1_0, c4_1_1, c4_1_2, c4_1_3⟩ := (bo2 K4).c4
  obtain ⟨c4_2_0, c4_2_1⟩ := (bo3 K4).c2
  have Mz4 := bsn K4 [vi ki 0, vi ki V] 36
  have lt4_0 := (bo1 K4).1
  have lt4_1 := (bo2 K4).1
  have lt4_2 := (bo3 K4).1
  go_upto_region 7 with fail
  refine bs_to Mz4 ?_
  clear c4_0_0 c4_0_1 c4_1_0 c4_1_1 c4_1_2 c4_1_3 c4_2_0 c4_2_1
  intro W5 K5
  clear Mz4 K4
  obtain ⟨c5_0_0, c5_0_1⟩ := (bo1 K5).c2
  obtain ⟨c5_1_0, c5_1_1⟩ := (bo2 K5).c2
  obtain ⟨z5_1_0, z5_1_1⟩ := (bo2 K5).f2
  obtain ⟨c5_2_0, c5_2_1, c5_2_2, c5_2_3⟩ := (bo3 K5).c4
  obtain ⟨c5_3_0, c5_3_1⟩ := (bo4 K5).c2
  have XF : Hid (Bx (W5.setCells (w.heap.size + 2) 0 [vi ki 0, vi ki 0]) (w.heap.size + 2) [vi ki 0, vi ki 0]) := (K5.out.at (w.heap.size + 2) [vi ki 0, vi ki 0] (by simp)).setAll _ rfl
  have BF : Hid (Below w.heap.size w (W5.setCells (w.heap.size + 2) 0 [vi ki 0, vi ki 0])) := below_setCells (by omega) _ _ _ K5.out.1
  have y0 := XF.out.c 0 rfl
  have y1 := XF.out.c 1 rfl
  simp only [World.setCells, Nat.zero_add] at y0 y1
  clear XF
  go_wp2
  exact bodyPost_ret (v := .tuple #[.agg #[vi ki 0, vi ki 0], vi ki e]) (by simp [results, Tryz.results17, go_sem, y0, y1]) rfl ⟨rfl, BF.out⟩
theorem add_ok (i u j m d n V X E : Int) (ka kb : Value)
  (R : Hid (∀ w : World, Cvl.Lens w → Calls Tryz.prog 32 #[.agg #[vi ki i, vi ki u]] w fun r' w' => r' = zr (.bool true) ∧ Below w.heap.size w w'))
  (PR : Hid (∀ w : World, Calls Tryz.prog 23 #[.agg #[vi ki j, vi ki m, vi ki d, vi ki n]] w fun r' w' => r' = zr (.bool true) ∧ Below w.heap.size w w'))
  (KA : Hid (∀ w : World, Calls Tryz.prog 46 #[vi ki i] w fun r' w' => r' = zr (ka) ∧ Below w.heap.size w w'))
  (KB : Hid (∀ w : World, Calls Tryz.prog 46 #[vi ki j] w fun r' w' => r' = zr (kb) ∧ Below w.heap.size w w'))
  (TG : Hid (∀ w : World, Calls Tryz.prog 45 #[ka, kb] w fun r' w' => r' = zr (.tuple #[vi ki 0, vi ki 0]) ∧ Below w.heap.size w w'))
  (MD : Hid (∀ w : World, Cvl.Lens w → Calls Tryz.prog 47 #[.agg #[vi ki i, vi ki u], .agg #[vi ki j, vi ki m, vi ki d, vi ki n]] w fun r' w' => r' = zr (.tuple #[.agg #[vi ki 0, vi ki V], vi ki 0]) ∧ Below w.heap.size w w'))
  (MO : Hid (∀ w : World, Cvl.Lens w → Calls Tryz.prog 35 #[.agg #[vi ki 0, vi ki V], vi ki n] w fun r' w' => r' = zr (.tuple #[.agg #[vi ki 0, vi ki X], vi ki E]) ∧ Below w.heap.size w w'))
  (w : World) (hL : Hid (∀ W : World, Below w.heap.size w W → Cvl.Lens W)) :
  Calls Tryz.prog 17 #[.agg #[vi ki i, vi ki u], .agg #[vi ki j, vi ki m, vi ki d, vi ki n]] w fun r' w' => r' = zr (.tuple #[.agg #[vi ki 0, vi ki X], vi ki E]) ∧ Below w.heap.size w w' := by
 have K0 := bsn3 w [vi ki i, vi ki u] 36 [vi ki j, vi ki m, vi ki d, vi ki n] 59 [vi ki 0, vi ki 0] 36
 go_enter Tryz.func17, Tryz.ntmps17
 go_wp2_with fail
 refine (R.out _ (hL.out _ K0.out.1)).mono ?_
 rintro e W1 ⟨rfl, hb⟩
 have K1 := bsb K0 hb
 clear hb K0
 obtain ⟨c1_0_0, c1_0_1⟩ := (bo1 K1).c2
 obtain ⟨c1_1_0, c1_1_1, c1_1_2, c1_1_3⟩ := (bo2 K1).c4
 obtain ⟨c1_2_0, c1_2_1⟩ := (bo3 K1).c2
 go_wp2_with fail
 refine (PR.out _).mono ?_
 rintro e W2 ⟨rfl, hb⟩
 have K2 := bsb K1 hb
 clear c1_0_0 c1_0_1 c1_1_0 c1_1_1 c1_1_2 c1_1_3 c1_2_0 c1_2_1
 clear hb K1
 obtain ⟨c2_0_0, c2_0_1⟩ := (bo1 K2).c2
 obtain ⟨c2_1_0, c2_1_1, c2_1_2, c2_1_3⟩ := (bo2 K2).c4
 obtain ⟨c2_2_0, c2_2_1⟩ := (bo3 K2).c2
 go_wp2_with fail
 go_cut [6, 7] (fun v0 v1 wx => v0 = vi ki 0 ∧ v1 = vi ki 0 ∧ Hid (BS w [(w.heap.size + 2, [vi ki 0, vi ki 0]), (w.heap.size + 1, [vi ki j, vi ki m, vi ki d, vi ki n]), (w.heap.size, [vi ki i, vi ki u])] wx))
 case first =>
  refine wp_region_held_drew (S := BS w [(w.heap.size + 2, [vi ki 0, vi ki 0]), (w.heap.size + 1, [vi ki j, vi ki m, vi ki d, vi ki n]), (w.heap.size, [vi ki i, vi ki u])]) (by kernel_rfl) K2.out.drew (fun hHeld => ?_)
  refine tks 0 ⟨some 20, _, _, _, _, none⟩ rfl ?_
  simp only [za, zb, zc, zd]
  refine tk (v := ?_) 1 ⟨some 21, _, _, _, _, none⟩ rfl ?_ ?_
  case refine_2 => (intro w9 hSw; obtain ⟨l0_0, l0_1⟩ := (hSw.at (w.heap.size + 2) [vi ki 0, vi ki 0] (by simp)).c2; obtain ⟨l1_0, l1_1, l1_2, l1_3⟩ := (hSw.at (w.heap.size + 1) [vi ki j, vi ki m, vi ki d, vi ki n] (by simp)).c4; obtain ⟨l2_0, l2_1⟩ := (hSw.at (w.heap.size) [vi ki i, vi ki u] (by simp)).c2; clear hSw; go_simp; try with_reducible rfl)
  simp only [za, zb, zc, zd]
  refine tks 3 ⟨some 23, _, _, _, _, none⟩ rfl ?_
  simp only [za, zb, zc, zd]
  refine tk (v := ?_) 4 ⟨some 24, _, _, _, _, none⟩ rfl ?_ ?_
  case refine_2 => (intro w9 hSw; obtain ⟨l0_0, l0_1⟩ := (hSw.at (w.heap.size + 2) [vi ki 0, vi ki 0] (by simp)).c2; obtain ⟨l1_0, l1_1, l1_2, l1_3⟩ := (hSw.at (w.heap.size + 1) [vi ki j, vi ki m, vi ki d, vi ki n] (by simp)).c4; obtain ⟨l2_0, l2_1⟩ := (hSw.at (w.heap.size) [vi ki i, vi ki u] (by simp)).c2; clear hSw; go_simp; try with_reducible rfl)
  simp only [za, zb, zc, zd]
  refine rd 2 ⟨some 22, _, _, _, _, none⟩ rfl (fun K hK => ?_)
  go_simp
  refine (KA.out _).mono ?_
  rintro e v1 ⟨rfl, hb1⟩
  refine hK.out _ _ (hHeld.below hb1) (fun hHeld => ?_)
  clear hK K hb1
  refine rd 5 ⟨some 25, _, _, _, _, none⟩ rfl (fun K hK => ?_)
  go_simp
  refine (KB.out _).mono ?_
  rintro e v2 ⟨rfl, hb2⟩
  refine hK.out _ _ (hHeld.below hb2) (fun hHeld => ?_)
  clear hK K hb2
  refine rd 6 ⟨some 26, _, _, _, _, none⟩ rfl (fun K hK => ?_)
  go_simp
  refine (TG.out _).mono ?_
  rintro e v3 ⟨rfl, hb3⟩
  refine hK.out _ _ (hHeld.below hb3) (fun hHeld => ?_)
  clear hK K hb3
  refine tks 7 ⟨some 19, _, _, _, _, none⟩ rfl ?_
  simp only [za, zb, zc, zd]
  refine tks 8 ⟨some 27, _, _, _, _, none⟩ rfl ?_
  simp only [za, zb, zc, zd]
  refine tks 9 ⟨some 28, _, _, _, _, none⟩ rfl ?_
  simp only [za, zb, zc, zd]
  refine tks 10 ⟨some 6, _, _, _, _, none⟩ rfl ?_
  simp only [za, zb, zc, zd]
  refine tks 11 ⟨some 7, _, _, _, _, none⟩ rfl ?_
  simp only [za, zb, zc, zd]
  refine wpAnyH_done (by kernel_rfl) ?_ _
  go_wp2_with fail
  go_meet
  case rel => exact ⟨rfl, rfl, hHeld⟩
 case rest =>
  clear c2_0_0 c2_0_1 c2_1_0 c2_1_1 c2_1_2 c2_1_3 c2_2_0 c2_2_1
  obtain ⟨rfl, rfl, K3⟩ := hcut
  clear K2
  skip
  obtain ⟨c3_0_0, c3_0_1⟩ := (bo1 K3).c2
  obtain ⟨c3_1_0, c3_1_1, c3_1_2, c3_1_3⟩ := (bo2 K3).c4
  obtain ⟨c3_2_0, c3_2_1⟩ := (bo3 K3).c2
  go_wp2_with fail
  refine (MD.out _ (hL.out _ K3.out.1)).mono ?_
  rintro e W4 ⟨rfl, hb⟩
  have K4 := bsb K3 hb
  clear c3_0_0 c3_0_1 c3_1_0 c3_1_1 c3_1_2 c3_1_3 c3_2_0 c3_2_1
  clear hb K3
  obtain ⟨c4_0_0, c4_0_1⟩ := (bo1 K4).c2
  obtain ⟨c4_1_0, c4_1_1, c4_1_2, c4_1_3⟩ := (bo2 K4).c4
  obtain ⟨c4_2_0, c4_2_1⟩ := (bo3 K4).c2
  have Mz4 := bsn K4 [vi ki 0, vi ki V] 36
  have lt4_0 := (bo1 K4).1
  have lt4_1 := (bo2 K4).1
  have lt4_2 := (bo3 K4).1
  go_upto_region 7 with fail
  refine bs_to Mz4 ?_
  clear c4_0_0 c4_0_1 c4_1_0 c4_1_1 c4_1_2 c4_1_3 c4_2_0 c4_2_1
  intro W5 K5
  clear Mz4 K4
  obtain ⟨c5_0_0, c5_0_1⟩ := (bo1 K5).c2
  obtain ⟨c5_1_0, c5_1_1⟩ := (bo2 K5).c2
  obtain ⟨c5_2_0, c5_2_1, c5_2_2, c5_2_3⟩ := (bo3 K5).c4
  obtain ⟨c5_3_0, c5_3_1⟩ := (bo4 K5).c2
  go_wp2_with fail
  refine (MO.out _ (hL.out _ K5.out.1)).mono ?_
  rintro e W6 ⟨rfl, hb⟩
  have K6 := bsb K5 hb
  clear c5_0_0 c5_0_1 c5_1_0 c5_1_1 c5_2_0 c5_2_1 c5_2_2 c5_2_3 c5_3_0 c5_3_1
  clear hb K5
  obtain ⟨c6_0_0, c6_0_1⟩ := (bo1 K6).c2
  obtain ⟨c6_1_0, c6_1_1⟩ := (bo2 K6).c2
  obtain ⟨z6_1_0, z6_1_1⟩ := (bo2 K6).f2
  obtain ⟨c6_2_0, c6_2_1, c6_2_2, c6_2_3⟩ := (bo3 K6).c4
  obtain ⟨c6_3_0, c6_3_1⟩ := (bo4 K6).c2
  have XF : Hid (Bx (W6.setCells (w.heap.size + 2) 0 [vi ki 0, vi ki X]) (w.heap.size + 2) [vi ki 0, vi ki X]) := (K6.out.at (w.heap.size + 2) [vi ki 0, vi ki 0] (by simp)).setAll _ rfl
  have BF : Hid (Below w.heap.size w (W6.setCells (w.heap.size + 2) 0 [vi ki 0, vi ki X])) := below_setCells (by omega) _ _ _ K6.out.1
  have y0 := XF.out.c 0 rfl
  have y1 := XF.out.c 1 rfl
  simp only [World.setCells, Nat.zero_add] at y0 y1
  clear XF
  go_wp2
  exact bodyPost_ret (v := .tuple #[.agg #[vi ki 0, vi ki X], vi ki E]) (by simp [results, Tryz.results17, go_sem, y0, y1]) rfl ⟨rfl, BF.out⟩
end Go.Proofs.YtklehbmghjcmaaaGreatDoor
