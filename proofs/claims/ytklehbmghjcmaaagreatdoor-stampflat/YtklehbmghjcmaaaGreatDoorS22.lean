import Derived.Test.YtklehbmghjcmaaaGreatDoorSz
import Derived.Test.YtklehbmghjcmaaaGreatDoorS21
import Derived.Test.YtklehbmghjcmaaaGreatDoorS2
open Go.Value renaming int → vi
open Go.IntKind renaming i64 → ki
open List renaming setIfInBounds_toArray → zb, set_cons_zero → zc, set_cons_succ → zd
open Go.Act renaming put → za
open Go.Ending renaming returned → zr
set_option maxRecDepth 100000
set_option maxHeartbeats 16000000
set_option linter.unusedVariables false
namespace Go.Proofs.YtklehbmghjcmaaaGreatDoor.Dy
open Go.RowKit
theorem rmake_bad (y m d v e : Int) (he : e ≠ 0)
  (D : Hid (∀ w : World, Calls Tryz.prog 114 #[vi ki y, vi ki m, vi ki d] w fun r' w' => r' = zr (.tuple #[vi ki v, vi ki e]) ∧ w' = w))
  (w : World) :
  Calls Tryz.prog 67 #[vi ki y, vi ki m, vi ki d] w fun r' w' => r' = zr (.tuple #[.agg #[vi ki 0, vi ki 0], vi ki 10]) ∧ Below w.heap.size w w' := by
 have e1 : (e != 0) = true := bne_iff_ne.2 he
 have K0 := bsn1 w [vi ki 0, vi ki 0] 111
 go_enter Tryz.func67, Tryz.ntmps67
 go_wp2_with fail
 refine (D.out _).mono ?_
 rintro e W1 ⟨rfl, rfl⟩
 go_wp2
 exact bodyPost_ret (v := .tuple #[.agg #[vi ki 0, vi ki 0], vi ki 10]) (by simp [results, Tryz.results67, go_sem]) rfl ⟨rfl, (by repeat' (first | assumption | exact Below.refl _ _ | exact Nat.le_refl _ | refine Below.alloc ?_ ?_ _ | (simp; done) | (simp; omega) | omega))⟩
theorem rmake_true (y m d v : Int)
  (D : Hid (∀ w : World, Calls Tryz.prog 114 #[vi ki y, vi ki m, vi ki d] w fun r' w' => r' = zr (.tuple #[vi ki v, vi ki 0]) ∧ w' = w))
  (C : Hid (∀ w : World, Calls Tryz.prog 83 #[vi ki v] w fun r' w' => r' = zr (.bool true) ∧ w' = w))
  (w : World) :
  Calls Tryz.prog 67 #[vi ki y, vi ki m, vi ki d] w fun r' w' => r' = zr (.tuple #[.agg #[vi ki 0, vi ki v], vi ki 0]) ∧ Below w.heap.size w w' := by
 have K0 := bsn1 w [vi ki 0, vi ki 0] 111
 go_enter Tryz.func67, Tryz.ntmps67
 go_wp2_with fail
 refine (D.out _).mono ?_
 rintro e W1 ⟨rfl, rfl⟩
 go_wp2_with fail
 refine (C.out _).mono ?_
 rintro e W2 ⟨rfl, rfl⟩
 go_wp2
 exact bodyPost_ret (v := .tuple #[.agg #[vi ki 0, vi ki v], vi ki 0]) (by simp [results, Tryz.results67, go_sem]) rfl ⟨rfl, (by repeat' (first | assumption | exact Below.refl _ _ | exact Nat.le_refl _ | refine Below.alloc ?_ ?_ _ | (simp; done) | (simp; omega) | omega))⟩
theorem rmake_false (y m d v : Int)
  (D : Hid (∀ w : World, Calls Tryz.prog 114 #[vi ki y, vi ki m, vi ki d] w fun r' w' => r' = zr (.tuple #[vi ki v, vi ki 0]) ∧ w' = w))
  (C : Hid (∀ w : World, Calls Tryz.prog 83 #[vi ki v] w fun r' w' => r' = zr (.bool false) ∧ w' = w))
  (w : World) :
  Calls Tryz.prog 67 #[vi ki y, vi ki m, vi ki d] w fun r' w' => r' = zr (.tuple #[.agg #[vi ki 0, vi ki 0], vi ki 10]) ∧ Below w.heap.size w w' := by
 have K0 := bsn1 w [vi ki 0, vi ki 0] 111
 go_enter Tryz.func67, Tryz.ntmps67
 go_wp2_with fail
 refine (D.out _).mono ?_
 rintro e W1 ⟨rfl, rfl⟩
 go_wp2_with fail
 refine (C.out _).mono ?_
 rintro e W2 ⟨rfl, rfl⟩
 go_wp2
 exact bodyPost_ret (v := .tuple #[.agg #[vi ki 0, vi ki 0], vi ki 10]) (by simp [results, Tryz.results67, go_sem]) rfl ⟨rfl, (by repeat' (first | assumption | exact Below.refl _ _ | exact Nat.le_refl _ | refine Below.alloc ?_ ?_ _ | (simp; done) | (simp; omega) | omega))⟩
theorem parts_no (i d : Int)
  (R : Hid (∀ w : World, Cvl.Lens w → Calls Tryz.prog 143 #[.agg #[vi ki i, vi ki d]] w fun r' w' => r' = zr (.bool false) ∧ Below w.heap.size w w'))
  (w : World) (hL : Hid (∀ W : World, Below w.heap.size w W → Cvl.Lens W)) :
  Calls Tryz.prog 153 #[.agg #[vi ki i, vi ki d]] w fun r' w' => r' = zr (.tuple #[vi ki 0, vi ki 0, vi ki 0, vi ki 1]) ∧ Below w.heap.size w w' := by
 have K0 := bsn1 w [vi ki i, vi ki d] 111
 go_enter Tryz.func153, Tryz.ntmps153
 go_wp2_with fail
 refine (R.out _ (hL.out _ K0.out.1)).mono ?_
 rintro e W1 ⟨rfl, hb⟩
 have K1 := bsb K0 hb
 clear hb K0
 obtain ⟨c1_0_0, c1_0_1⟩ := (bo1 K1).c2
 go_wp2
 exact bodyPost_ret (v := .tuple #[vi ki 0, vi ki 0, vi ki 0, vi ki 1]) (by simp [results, Tryz.results153, go_sem]) rfl ⟨rfl, K1.out.1⟩
theorem parts_inf (i d : Int) (hi : i ≠ 0)
  (R : Hid (∀ w : World, Cvl.Lens w → Calls Tryz.prog 143 #[.agg #[vi ki i, vi ki d]] w fun r' w' => r' = zr (.bool true) ∧ Below w.heap.size w w'))
  (w : World) (hL : Hid (∀ W : World, Below w.heap.size w W → Cvl.Lens W)) :
  Calls Tryz.prog 153 #[.agg #[vi ki i, vi ki d]] w fun r' w' => r' = zr (.tuple #[vi ki 0, vi ki 0, vi ki 0, vi ki 10]) ∧ Below w.heap.size w w' := by
 have i1 : (i != 0) = true := bne_iff_ne.2 hi
 have K0 := bsn1 w [vi ki i, vi ki d] 111
 go_enter Tryz.func153, Tryz.ntmps153
 go_wp2_with fail
 refine (R.out _ (hL.out _ K0.out.1)).mono ?_
 rintro e W1 ⟨rfl, hb⟩
 have K1 := bsb K0 hb
 clear hb K0
 obtain ⟨c1_0_0, c1_0_1⟩ := (bo1 K1).c2
 go_wp2
 exact bodyPost_ret (v := .tuple #[vi ki 0, vi ki 0, vi ki 0, vi ki 10]) (by simp [results, Tryz.results153, go_sem]) rfl ⟨rfl, K1.out.1⟩
theorem parts_yes (d y m q e : Int)
  (R : Hid (∀ w : World, Cvl.Lens w → Calls Tryz.prog 143 #[.agg #[vi ki 0, vi ki d]] w fun r' w' => r' = zr (.bool true) ∧ Below w.heap.size w w'))
  (D : Hid (∀ w : World, Cvl.Lens w → Calls Tryz.prog 126 #[vi ki d] w fun r' w' => r' = zr (.tuple #[vi ki y, vi ki m, vi ki q, vi ki e]) ∧ w' = w))
  (w : World) (hL : Hid (∀ W : World, Below w.heap.size w W → Cvl.Lens W)) :
  Calls Tryz.prog 153 #[.agg #[vi ki 0, vi ki d]] w fun r' w' => r' = zr (.tuple #[vi ki y, vi ki m, vi ki q, vi ki e]) ∧ Below w.heap.size w w' := by
 have K0 := bsn1 w [vi ki 0, vi ki d] 111
 go_enter Tryz.func153, Tryz.ntmps153
 go_wp2_with fail
 refine (R.out _ (hL.out _ K0.out.1)).mono ?_
 rintro e W1 ⟨rfl, hb⟩
 have K1 := bsb K0 hb
 clear hb K0
 obtain ⟨c1_0_0, c1_0_1⟩ := (bo1 K1).c2
 go_wp2_with fail
 refine (D.out _ (hL.out _ K1.out.1)).mono ?_
 rintro e W2 ⟨rfl, hw⟩
 rw [hw]
 clear hw W2
 go_wp2
 exact bodyPost_ret (v := .tuple #[vi ki y, vi ki m, vi ki q, vi ki e]) (by simp [results, Tryz.results153, go_sem]) rfl ⟨rfl, K1.out.1⟩
theorem mvd_no (i d n : Int)
  (R : Hid (∀ w : World, Cvl.Lens w → Calls Tryz.prog 143 #[.agg #[vi ki i, vi ki d]] w fun r' w' => r' = zr (.bool false) ∧ Below w.heap.size w w'))
  (w : World) (hL : Hid (∀ W : World, Below w.heap.size w W → Cvl.Lens W)) :
  Calls Tryz.prog 140 #[.agg #[vi ki i, vi ki d], .func (.func 142) #[vi ki n] #[]] w fun r' w' => r' = zr (.tuple #[.agg #[vi ki 0, vi ki 0], vi ki 1]) ∧ Below w.heap.size w w' := by
 have K0 := bsn2 w [vi ki i, vi ki d] 111 [vi ki 0, vi ki 0] 111
 go_enter Tryz.func140, Tryz.ntmps140
 go_wp2_with fail
 refine (R.out _ (hL.out _ K0.out.1)).mono ?_
 rintro e W1 ⟨rfl, hb⟩
 have K1 := bsb K0 hb
 clear hb K0
 obtain ⟨c1_0_0, c1_0_1⟩ := (bo1 K1).c2
 obtain ⟨z1_0_0, z1_0_1⟩ := (bo1 K1).f2
 obtain ⟨c1_1_0, c1_1_1⟩ := (bo2 K1).c2
 have XF : Hid (Bx (W1.setCells (w.heap.size + 1) 0 [vi ki 0, vi ki 0]) (w.heap.size + 1) [vi ki 0, vi ki 0]) := (K1.out.at (w.heap.size + 1) [vi ki 0, vi ki 0] (by simp)).setAll _ rfl
 have BF : Hid (Below w.heap.size w (W1.setCells (w.heap.size + 1) 0 [vi ki 0, vi ki 0])) := below_setCells (by omega) _ _ _ K1.out.1
 have y0 := XF.out.c 0 rfl
 have y1 := XF.out.c 1 rfl
 simp only [World.setCells, Nat.zero_add] at y0 y1
 clear XF
 go_wp2
 exact bodyPost_ret (v := .tuple #[.agg #[vi ki 0, vi ki 0], vi ki 1]) (by simp [results, Tryz.results140, go_sem, y0, y1]) rfl ⟨rfl, BF.out⟩
theorem mvd_inf (i d n : Int) (hi : i ≠ 0)
  (R : Hid (∀ w : World, Cvl.Lens w → Calls Tryz.prog 143 #[.agg #[vi ki i, vi ki d]] w fun r' w' => r' = zr (.bool true) ∧ Below w.heap.size w w'))
  (w : World) (hL : Hid (∀ W : World, Below w.heap.size w W → Cvl.Lens W)) :
  Calls Tryz.prog 140 #[.agg #[vi ki i, vi ki d], .func (.func 142) #[vi ki n] #[]] w fun r' w' => r' = zr (.tuple #[.agg #[vi ki i, vi ki d], vi ki 0]) ∧ Below w.heap.size w w' := by
 have i1 : (i != 0) = true := bne_iff_ne.2 hi
 have K0 := bsn2 w [vi ki i, vi ki d] 111 [vi ki 0, vi ki 0] 111
 go_enter Tryz.func140, Tryz.ntmps140
 go_wp2_with fail
 refine (R.out _ (hL.out _ K0.out.1)).mono ?_
 rintro e W1 ⟨rfl, hb⟩
 have K1 := bsb K0 hb
 clear hb K0
 obtain ⟨c1_0_0, c1_0_1⟩ := (bo1 K1).c2
 obtain ⟨z1_0_0, z1_0_1⟩ := (bo1 K1).f2
 obtain ⟨c1_1_0, c1_1_1⟩ := (bo2 K1).c2
 have XF : Hid (Bx (W1.setCells (w.heap.size + 1) 0 [vi ki i, vi ki d]) (w.heap.size + 1) [vi ki i, vi ki d]) := (K1.out.at (w.heap.size + 1) [vi ki 0, vi ki 0] (by simp)).setAll _ rfl
 have BF : Hid (Below w.heap.size w (W1.setCells (w.heap.size + 1) 0 [vi ki i, vi ki d])) := below_setCells (by omega) _ _ _ K1.out.1
 have y0 := XF.out.c 0 rfl
 have y1 := XF.out.c 1 rfl
 simp only [World.setCells, Nat.zero_add] at y0 y1
 clear XF
 go_wp2
 exact bodyPost_ret (v := .tuple #[.agg #[vi ki i, vi ki d], vi ki 0]) (by simp [results, Tryz.results140, go_sem, y0, y1]) rfl ⟨rfl, BF.out⟩
theorem mvd_yes (d n v e V E : Int)
  (R : Hid (∀ w : World, Cvl.Lens w → Calls Tryz.prog 143 #[.agg #[vi ki 0, vi ki d]] w fun r' w' => r' = zr (.bool true) ∧ Below w.heap.size w w'))
  (F : Hid (∀ w : World, Calls Tryz.prog 142 #[vi ki n, vi ki d] w fun r' w' => r' = zr (.tuple #[vi ki v, vi ki e]) ∧ w' = w))
  (O : Hid (∀ w : World, Cvl.Lens w → Calls Tryz.prog 186 #[vi ki v, vi ki e] w fun r' w' => r' = zr (.tuple #[.agg #[vi ki 0, vi ki V], vi ki E]) ∧ Below w.heap.size w w'))
  (w : World) (hL : Hid (∀ W : World, Below w.heap.size w W → Cvl.Lens W)) :
  Calls Tryz.prog 140 #[.agg #[vi ki 0, vi ki d], .func (.func 142) #[vi ki n] #[]] w fun r' w' => r' = zr (.tuple #[.agg #[vi ki 0, vi ki V], vi ki E]) ∧ Below w.heap.size w w' := by
 have K0 := bsn2 w [vi ki 0, vi ki d] 111 [vi ki 0, vi ki 0] 111
 go_enter Tryz.func140, Tryz.ntmps140
 go_wp2_with fail
 refine (R.out _ (hL.out _ K0.out.1)).mono ?_
 rintro e W1 ⟨rfl, hb⟩
 have K1 := bsb K0 hb
 clear hb K0
 obtain ⟨c1_0_0, c1_0_1⟩ := (bo1 K1).c2
 obtain ⟨z1_0_0, z1_0_1⟩ := (bo1 K1).f2
 obtain ⟨c1_1_0, c1_1_1⟩ := (bo2 K1).c2
 go_wp2_with fail
 refine (F.out _).mono ?_
 rintro e W2 ⟨rfl, hw⟩
 rw [hw]
 clear hw W2
 go_wp2_with fail
 refine (O.out _ (hL.out _ K1.out.1)).mono ?_
 rintro e W3 ⟨rfl, hb⟩
 have K3 := bsb K1 hb
 clear c1_0_0 c1_0_1 z1_0_0 z1_0_1 c1_1_0 c1_1_1
 clear hb K1
 obtain ⟨c3_0_0, c3_0_1⟩ := (bo1 K3).c2
 obtain ⟨z3_0_0, z3_0_1⟩ := (bo1 K3).f2
 obtain ⟨c3_1_0, c3_1_1⟩ := (bo2 K3).c2
 have XF : Hid (Bx (W3.setCells (w.heap.size + 1) 0 [vi ki 0, vi ki V]) (w.heap.size + 1) [vi ki 0, vi ki V]) := (K3.out.at (w.heap.size + 1) [vi ki 0, vi ki 0] (by simp)).setAll _ rfl
 have BF : Hid (Below w.heap.size w (W3.setCells (w.heap.size + 1) 0 [vi ki 0, vi ki V])) := below_setCells (by omega) _ _ _ K3.out.1
 have y0 := XF.out.c 0 rfl
 have y1 := XF.out.c 1 rfl
 simp only [World.setCells, Nat.zero_add] at y0 y1
 clear XF
 go_wp2
 exact bodyPost_ret (v := .tuple #[.agg #[vi ki 0, vi ki V], vi ki E]) (by simp [results, Tryz.results140, go_sem, y0, y1]) rfl ⟨rfl, BF.out⟩
theorem dadd_run (i d n a b E : Int)
  (M : Hid (∀ w : World, Cvl.Lens w → Calls Tryz.prog 140 #[.agg #[vi ki i, vi ki d], .func (.func 142) #[vi ki n] #[]] w fun r' w' => r' = zr (.tuple #[.agg #[vi ki a, vi ki b], vi ki E]) ∧ Below w.heap.size w w'))
  (w : World) (hL : Hid (∀ W : World, Below w.heap.size w W → Cvl.Lens W)) :
  Calls Tryz.prog 99 #[.agg #[vi ki i, vi ki d], vi ki n] w fun r' w' => r' = zr (.tuple #[.agg #[vi ki a, vi ki b], vi ki E]) ∧ Below w.heap.size w w' := by
 have K0 := bsn2 w [vi ki i, vi ki d] 111 [vi ki 0, vi ki 0] 111
 go_enter Tryz.func99, Tryz.ntmps99
 go_wp2_with fail
 refine (M.out _ (hL.out _ K0.out.1)).mono ?_
 rintro e W1 ⟨rfl, hb⟩
 have K1 := bsb K0 hb
 clear hb K0
 obtain ⟨c1_0_0, c1_0_1⟩ := (bo1 K1).c2
 obtain ⟨z1_0_0, z1_0_1⟩ := (bo1 K1).f2
 obtain ⟨c1_1_0, c1_1_1⟩ := (bo2 K1).c2
 have XF : Hid (Bx (W1.setCells (w.heap.size + 1) 0 [vi ki a, vi ki b]) (w.heap.size + 1) [vi ki a, vi ki b]) := (K1.out.at (w.heap.size + 1) [vi ki 0, vi ki 0] (by simp)).setAll _ rfl
 have BF : Hid (Below w.heap.size w (W1.setCells (w.heap.size + 1) 0 [vi ki a, vi ki b])) := below_setCells (by omega) _ _ _ K1.out.1
 have y0 := XF.out.c 0 rfl
 have y1 := XF.out.c 1 rfl
 simp only [World.setCells, Nat.zero_add] at y0 y1
 clear XF
 go_wp2
 exact bodyPost_ret (v := .tuple #[.agg #[vi ki a, vi ki b], vi ki E]) (by simp [results, Tryz.results99, go_sem, y0, y1]) rfl ⟨rfl, BF.out⟩
theorem mvm_no (i d n : Int)
  (R : Hid (∀ w : World, Cvl.Lens w → Calls Tryz.prog 143 #[.agg #[vi ki i, vi ki d]] w fun r' w' => r' = zr (.bool false) ∧ Below w.heap.size w w'))
  (w : World) (hL : Hid (∀ W : World, Below w.heap.size w W → Cvl.Lens W)) :
  Calls Tryz.prog 140 #[.agg #[vi ki i, vi ki d], .func (.func 141) #[vi ki n] #[]] w fun r' w' => r' = zr (.tuple #[.agg #[vi ki 0, vi ki 0], vi ki 1]) ∧ Below w.heap.size w w' := by
 have K0 := bsn2 w [vi ki i, vi ki d] 111 [vi ki 0, vi ki 0] 111
 go_enter Tryz.func140, Tryz.ntmps140
 go_wp2_with fail
 refine (R.out _ (hL.out _ K0.out.1)).mono ?_
 rintro e W1 ⟨rfl, hb⟩
 have K1 := bsb K0 hb
 clear hb K0
 obtain ⟨c1_0_0, c1_0_1⟩ := (bo1 K1).c2
 obtain ⟨z1_0_0, z1_0_1⟩ := (bo1 K1).f2
 obtain ⟨c1_1_0, c1_1_1⟩ := (bo2 K1).c2
 have XF : Hid (Bx (W1.setCells (w.heap.size + 1) 0 [vi ki 0, vi ki 0]) (w.heap.size + 1) [vi ki 0, vi ki 0]) := (K1.out.at (w.heap.size + 1) [vi ki 0, vi ki 0] (by simp)).setAll _ rfl
 have BF : Hid (Below w.heap.size w (W1.setCells (w.heap.size + 1) 0 [vi ki 0, vi ki 0])) := below_setCells (by omega) _ _ _ K1.out.1
 have y0 := XF.out.c 0 rfl
 have y1 := XF.out.c 1 rfl
 simp only [World.setCells, Nat.zero_add] at y0 y1
 clear XF
 go_wp2
 exact bodyPost_ret (v := .tuple #[.agg #[vi ki 0, vi ki 0], vi ki 1]) (by simp [results, Tryz.results140, go_sem, y0, y1]) rfl ⟨rfl, BF.out⟩
theorem mvm_inf (i d n : Int) (hi : i ≠ 0)
  (R : Hid (∀ w : World, Cvl.Lens w → Calls Tryz.prog 143 #[.agg #[vi ki i, vi ki d]] w fun r' w' => r' = zr (.bool true) ∧ Below w.heap.size w w'))
  (w : World) (hL : Hid (∀ W : World, Below w.heap.size w W → Cvl.Lens W)) :
  Calls Tryz.prog 140 #[.agg #[vi ki i, vi ki d], .func (.func 141) #[vi ki n] #[]] w fun r' w' => r' = zr (.tuple #[.agg #[vi ki i, vi ki d], vi ki 0]) ∧ Below w.heap.size w w' := by
 have i1 : (i != 0) = true := bne_iff_ne.2 hi
 have K0 := bsn2 w [vi ki i, vi ki d] 111 [vi ki 0, vi ki 0] 111
 go_enter Tryz.func140, Tryz.ntmps140
 go_wp2_with fail
 refine (R.out _ (hL.out _ K0.out.1)).mono ?_
 rintro e W1 ⟨rfl, hb⟩
 have K1 := bsb K0 hb
 clear hb K0
 obtain ⟨c1_0_0, c1_0_1⟩ := (bo1 K1).c2
 obtain ⟨z1_0_0, z1_0_1⟩ := (bo1 K1).f2
 obtain ⟨c1_1_0, c1_1_1⟩ := (bo2 K1).c2
 have XF : Hid (Bx (W1.setCells (w.heap.size + 1) 0 [vi ki i, vi ki d]) (w.heap.size + 1) [vi ki i, vi ki d]) := (K1.out.at (w.heap.size + 1) [vi ki 0, vi ki 0] (by simp)).setAll _ rfl
 have BF : Hid (Below w.heap.size w (W1.setCells (w.heap.size + 1) 0 [vi ki i, vi ki d])) := below_setCells (by omega) _ _ _ K1.out.1
 have y0 := XF.out.c 0 rfl
 have y1 := XF.out.c 1 rfl
 simp only [World.setCells, Nat.zero_add] at y0 y1
 clear XF
 go_wp2
 exact bodyPost_ret (v := .tuple #[.agg #[vi ki i, vi ki d], vi ki 0]) (by simp [results, Tryz.results140, go_sem, y0, y1]) rfl ⟨rfl, BF.out⟩
theorem mvm_yes (d n v e V E : Int)
  (R : Hid (∀ w : World, Cvl.Lens w → Calls Tryz.prog 143 #[.agg #[vi ki 0, vi ki d]] w fun r' w' => r' = zr (.bool true) ∧ Below w.heap.size w w'))
  (F : Hid (∀ w : World, Cvl.Lens w → Calls Tryz.prog 141 #[vi ki n, vi ki d] w fun r' w' => r' = zr (.tuple #[vi ki v, vi ki e]) ∧ w' = w))
  (O : Hid (∀ w : World, Cvl.Lens w → Calls Tryz.prog 186 #[vi ki v, vi ki e] w fun r' w' => r' = zr (.tuple #[.agg #[vi ki 0, vi ki V], vi ki E]) ∧ Below w.heap.size w w'))
  (w : World) (hL : Hid (∀ W : World, Below w.heap.size w W → Cvl.Lens W)) :
  Calls Tryz.prog 140 #[.agg #[vi ki 0, vi ki d], .func (.func 141) #[vi ki n] #[]] w fun r' w' => r' = zr (.tuple #[.agg #[vi ki 0, vi ki V], vi ki E]) ∧ Below w.heap.size w w' := by
 have K0 := bsn2 w [vi ki 0, vi ki d] 111 [vi ki 0, vi ki 0] 111
 go_enter Tryz.func140, Tryz.ntmps140
 go_wp2_with fail
 refine (R.out _ (hL.out _ K0.out.1)).mono ?_
 rintro e W1 ⟨rfl, hb⟩
 have K1 := bsb K0 hb
 clear hb K0
 obtain ⟨c1_0_0, c1_0_1⟩ := (bo1 K1).c2
 obtain ⟨z1_0_0, z1_0_1⟩ := (bo1 K1).f2
 obtain ⟨c1_1_0, c1_1_1⟩ := (bo2 K1).c2
 go_wp2_with fail
 refine (F.out _ (hL.out _ K1.out.1)).mono ?_
 rintro e W2 ⟨rfl, hw⟩
 rw [hw]
 clear hw W2
 go_wp2_with fail
 refine (O.out _ (hL.out _ K1.out.1)).mono ?_
 rintro e W3 ⟨rfl, hb⟩
 have K3 := bsb K1 hb
 clear c1_0_0 c1_0_1 z1_0_0 z1_0_1 c1_1_0 c1_1_1
 clear hb K1
 obtain ⟨c3_0_0, c3_0_1⟩ := (bo1 K3).c2
 obtain ⟨z3_0_0, z3_0_1⟩ := (bo1 K3).f2
 obtain ⟨c3_1_0, c3_1_1⟩ := (bo2 K3).c2
 have XF : Hid (Bx (W3.setCells (w.heap.size + 1) 0 [vi ki 0, vi ki V]) (w.heap.size + 1) [vi ki 0, vi ki V]) := (K3.out.at (w.heap.size + 1) [vi ki 0, vi ki 0] (by simp)).setAll _ rfl
 have BF : Hid (Below w.heap.size w (W3.setCells (w.heap.size + 1) 0 [vi ki 0, vi ki V])) := below_setCells (by omega) _ _ _ K3.out.1
 have y0 := XF.out.c 0 rfl
 have y1 := XF.out.c 1 rfl
 simp only [World.setCells, Nat.zero_add] at y0 y1
 clear XF
 go_wp2
 exact bodyPost_ret (v := .tuple #[.agg #[vi ki 0, vi ki V], vi ki E]) (by simp [results, Tryz.results140, go_sem, y0, y1]) rfl ⟨rfl, BF.out⟩
theorem dshift_run (i d n a b E : Int)
  (M : Hid (∀ w : World, Cvl.Lens w → Calls Tryz.prog 140 #[.agg #[vi ki i, vi ki d], .func (.func 141) #[vi ki n] #[]] w fun r' w' => r' = zr (.tuple #[.agg #[vi ki a, vi ki b], vi ki E]) ∧ Below w.heap.size w w'))
  (w : World) (hL : Hid (∀ W : World, Below w.heap.size w W → Cvl.Lens W)) :
  Calls Tryz.prog 98 #[.agg #[vi ki i, vi ki d], vi ki n] w fun r' w' => r' = zr (.tuple #[.agg #[vi ki a, vi ki b], vi ki E]) ∧ Below w.heap.size w w' := by
 have K0 := bsn2 w [vi ki i, vi ki d] 111 [vi ki 0, vi ki 0] 111
 go_enter Tryz.func98, Tryz.ntmps98
 go_wp2_with fail
 refine (M.out _ (hL.out _ K0.out.1)).mono ?_
 rintro e W1 ⟨rfl, hb⟩
 have K1 := bsb K0 hb
 clear hb K0
 obtain ⟨c1_0_0, c1_0_1⟩ := (bo1 K1).c2
 obtain ⟨z1_0_0, z1_0_1⟩ := (bo1 K1).f2
 obtain ⟨c1_1_0, c1_1_1⟩ := (bo2 K1).c2
 have XF : Hid (Bx (W1.setCells (w.heap.size + 1) 0 [vi ki a, vi ki b]) (w.heap.size + 1) [vi ki a, vi ki b]) := (K1.out.at (w.heap.size + 1) [vi ki 0, vi ki 0] (by simp)).setAll _ rfl
 have BF : Hid (Below w.heap.size w (W1.setCells (w.heap.size + 1) 0 [vi ki a, vi ki b])) := below_setCells (by omega) _ _ _ K1.out.1
 have y0 := XF.out.c 0 rfl
 have y1 := XF.out.c 1 rfl
 simp only [World.setCells, Nat.zero_add] at y0 y1
 clear XF
 go_wp2
 exact bodyPost_ret (v := .tuple #[.agg #[vi ki a, vi ki b], vi ki E]) (by simp [results, Tryz.results98, go_sem, y0, y1]) rfl ⟨rfl, BF.out⟩
end Go.Proofs.YtklehbmghjcmaaaGreatDoor.Dy
namespace Go.Proofs.YtklehbmghjcmaaaGreatDoor.Dy
open Go.RowKit
def ordV (i j a b : Int) : Int := if i < j ∨ i = j ∧ a < b then -1 else if j < i ∨ b < a then 1 else 0
theorem scmp_no1 (i a j b : Int)
  (X : Hid (∀ w : World, Cvl.Lens w → Calls Tryz.prog 32 #[.agg #[vi ki i, vi ki a]] w fun r' w' => r' = zr (.bool false) ∧ Below w.heap.size w w'))
  (w : World) (hL : Hid (∀ W : World, Below w.heap.size w W → Cvl.Lens W)) :
  Calls Tryz.prog 92 #[.agg #[vi ki i, vi ki a], .agg #[vi ki j, vi ki b]] w fun r' w' => r' = zr (vi ki 0) ∧ Below w.heap.size w w' := by
 have K0 := bsn2 w [vi ki i, vi ki a] 36 [vi ki j, vi ki b] 36
 go_enter Tryz.func92, Tryz.ntmps92
 go_wp2_with fail
 refine (X.out _ (hL.out _ K0.out.1)).mono ?_
 rintro e W1 ⟨rfl, hb⟩
 have K1 := bsb K0 hb
 clear hb K0
 obtain ⟨c1_0_0, c1_0_1⟩ := (bo1 K1).c2
 obtain ⟨c1_1_0, c1_1_1⟩ := (bo2 K1).c2
 go_wp2
 go_ret
 exact ⟨rfl, K1.out.1⟩
theorem scmp_no2 (i a j b : Int)
  (X : Hid (∀ w : World, Cvl.Lens w → Calls Tryz.prog 32 #[.agg #[vi ki i, vi ki a]] w fun r' w' => r' = zr (.bool true) ∧ Below w.heap.size w w'))
  (Y : Hid (∀ w : World, Cvl.Lens w → Calls Tryz.prog 32 #[.agg #[vi ki j, vi ki b]] w fun r' w' => r' = zr (.bool false) ∧ Below w.heap.size w w'))
  (w : World) (hL : Hid (∀ W : World, Below w.heap.size w W → Cvl.Lens W)) :
  Calls Tryz.prog 92 #[.agg #[vi ki i, vi ki a], .agg #[vi ki j, vi ki b]] w fun r' w' => r' = zr (vi ki 0) ∧ Below w.heap.size w w' := by
 have K0 := bsn2 w [vi ki i, vi ki a] 36 [vi ki j, vi ki b] 36
 go_enter Tryz.func92, Tryz.ntmps92
 go_wp2_with fail
 refine (X.out _ (hL.out _ K0.out.1)).mono ?_
 rintro e W1 ⟨rfl, hb⟩
 have K1 := bsb K0 hb
 clear hb K0
 obtain ⟨c1_0_0, c1_0_1⟩ := (bo1 K1).c2
 obtain ⟨c1_1_0, c1_1_1⟩ := (bo2 K1).c2
 go_wp2_with fail
 refine (Y.out _ (hL.out _ K1.out.1)).mono ?_
 rintro e W2 ⟨rfl, hb⟩
 have K2 := bsb K1 hb
 clear c1_0_0 c1_0_1 c1_1_0 c1_1_1
 clear hb K1
 obtain ⟨c2_0_0, c2_0_1⟩ := (bo1 K2).c2
 obtain ⟨c2_1_0, c2_1_1⟩ := (bo2 K2).c2
 go_wp2
 go_ret
 exact ⟨rfl, K2.out.1⟩
theorem scmp_1 (i a j b : Int) (h : i < j)
  (X : Hid (∀ w : World, Cvl.Lens w → Calls Tryz.prog 32 #[.agg #[vi ki i, vi ki a]] w fun r' w' => r' = zr (.bool true) ∧ Below w.heap.size w w'))
  (Y : Hid (∀ w : World, Cvl.Lens w → Calls Tryz.prog 32 #[.agg #[vi ki j, vi ki b]] w fun r' w' => r' = zr (.bool true) ∧ Below w.heap.size w w'))
  (w : World) (hL : Hid (∀ W : World, Below w.heap.size w W → Cvl.Lens W)) :
  Calls Tryz.prog 92 #[.agg #[vi ki i, vi ki a], .agg #[vi ki j, vi ki b]] w fun r' w' => r' = zr (vi ki (-1)) ∧ Below w.heap.size w w' := by
 have h2 : (i == j) = false := by simp; omega
 have K0 := bsn2 w [vi ki i, vi ki a] 36 [vi ki j, vi ki b] 36
 go_enter Tryz.func92, Tryz.ntmps92
 go_wp2_with fail
 refine (X.out _ (hL.out _ K0.out.1)).mono ?_
 rintro e W1 ⟨rfl, hb⟩
 have K1 := bsb K0 hb
 clear hb K0
 obtain ⟨c1_0_0, c1_0_1⟩ := (bo1 K1).c2
 obtain ⟨c1_1_0, c1_1_1⟩ := (bo2 K1).c2
 go_wp2_with fail
 refine (Y.out _ (hL.out _ K1.out.1)).mono ?_
 rintro e W2 ⟨rfl, hb⟩
 have K2 := bsb K1 hb
 clear c1_0_0 c1_0_1 c1_1_0 c1_1_1
 clear hb K1
 obtain ⟨c2_0_0, c2_0_1⟩ := (bo1 K2).c2
 obtain ⟨c2_1_0, c2_1_1⟩ := (bo2 K2).c2
 go_wp2
 go_ret
 exact ⟨rfl, K2.out.1⟩
theorem scmp_2 (i a b : Int) (g : a < b)
  (X : Hid (∀ w : World, Cvl.Lens w → Calls Tryz.prog 32 #[.agg #[vi ki i, vi ki a]] w fun r' w' => r' = zr (.bool true) ∧ Below w.heap.size w w'))
  (Y : Hid (∀ w : World, Cvl.Lens w → Calls Tryz.prog 32 #[.agg #[vi ki i, vi ki b]] w fun r' w' => r' = zr (.bool true) ∧ Below w.heap.size w w'))
  (w : World) (hL : Hid (∀ W : World, Below w.heap.size w W → Cvl.Lens W)) :
  Calls Tryz.prog 92 #[.agg #[vi ki i, vi ki a], .agg #[vi ki i, vi ki b]] w fun r' w' => r' = zr (vi ki (-1)) ∧ Below w.heap.size w w' := by
 have h2 : (a == b) = false := by simp; omega
 have K0 := bsn2 w [vi ki i, vi ki a] 36 [vi ki i, vi ki b] 36
 go_enter Tryz.func92, Tryz.ntmps92
 go_wp2_with fail
 refine (X.out _ (hL.out _ K0.out.1)).mono ?_
 rintro e W1 ⟨rfl, hb⟩
 have K1 := bsb K0 hb
 clear hb K0
 obtain ⟨c1_0_0, c1_0_1⟩ := (bo1 K1).c2
 obtain ⟨c1_1_0, c1_1_1⟩ := (bo2 K1).c2
 go_wp2_with fail
 refine (Y.out _ (hL.out _ K1.out.1)).mono ?_
 rintro e W2 ⟨rfl, hb⟩
 have K2 := bsb K1 hb
 clear c1_0_0 c1_0_1 c1_1_0 c1_1_1
 clear hb K1
 obtain ⟨c2_0_0, c2_0_1⟩ := (bo1 K2).c2
 obtain ⟨c2_1_0, c2_1_1⟩ := (bo2 K2).c2
 go_wp2
 go_ret
 exact ⟨rfl, K2.out.1⟩
theorem scmp_3 (i a j b : Int) (h : j < i)
  (X : Hid (∀ w : World, Cvl.Lens w → Calls Tryz.prog 32 #[.agg #[vi ki i, vi ki a]] w fun r' w' => r' = zr (.bool true) ∧ Below w.heap.size w w'))
  (Y : Hid (∀ w : World, Cvl.Lens w → Calls Tryz.prog 32 #[.agg #[vi ki j, vi ki b]] w fun r' w' => r' = zr (.bool true) ∧ Below w.heap.size w w'))
  (w : World) (hL : Hid (∀ W : World, Below w.heap.size w W → Cvl.Lens W)) :
  Calls Tryz.prog 92 #[.agg #[vi ki i, vi ki a], .agg #[vi ki j, vi ki b]] w fun r' w' => r' = zr (vi ki (1)) ∧ Below w.heap.size w w' := by
 have h1 : ¬ i < j := by omega
 have h2 : (i == j) = false := by simp; omega
 have K0 := bsn2 w [vi ki i, vi ki a] 36 [vi ki j, vi ki b] 36
 go_enter Tryz.func92, Tryz.ntmps92
 go_wp2_with fail
 refine (X.out _ (hL.out _ K0.out.1)).mono ?_
 rintro e W1 ⟨rfl, hb⟩
 have K1 := bsb K0 hb
 clear hb K0
 obtain ⟨c1_0_0, c1_0_1⟩ := (bo1 K1).c2
 obtain ⟨c1_1_0, c1_1_1⟩ := (bo2 K1).c2
 go_wp2_with fail
 refine (Y.out _ (hL.out _ K1.out.1)).mono ?_
 rintro e W2 ⟨rfl, hb⟩
 have K2 := bsb K1 hb
 clear c1_0_0 c1_0_1 c1_1_0 c1_1_1
 clear hb K1
 obtain ⟨c2_0_0, c2_0_1⟩ := (bo1 K2).c2
 obtain ⟨c2_1_0, c2_1_1⟩ := (bo2 K2).c2
 go_wp2
 go_ret
 exact ⟨rfl, K2.out.1⟩
theorem scmp_4 (i a b : Int) (g : b < a)
  (X : Hid (∀ w : World, Cvl.Lens w → Calls Tryz.prog 32 #[.agg #[vi ki i, vi ki a]] w fun r' w' => r' = zr (.bool true) ∧ Below w.heap.size w w'))
  (Y : Hid (∀ w : World, Cvl.Lens w → Calls Tryz.prog 32 #[.agg #[vi ki i, vi ki b]] w fun r' w' => r' = zr (.bool true) ∧ Below w.heap.size w w'))
  (w : World) (hL : Hid (∀ W : World, Below w.heap.size w W → Cvl.Lens W)) :
  Calls Tryz.prog 92 #[.agg #[vi ki i, vi ki a], .agg #[vi ki i, vi ki b]] w fun r' w' => r' = zr (vi ki (1)) ∧ Below w.heap.size w w' := by
 have g1 : ¬ a < b := by omega
 have h2 : (a == b) = false := by simp; omega
 have K0 := bsn2 w [vi ki i, vi ki a] 36 [vi ki i, vi ki b] 36
 go_enter Tryz.func92, Tryz.ntmps92
 go_wp2_with fail
 refine (X.out _ (hL.out _ K0.out.1)).mono ?_
 rintro e W1 ⟨rfl, hb⟩
 have K1 := bsb K0 hb
 clear hb K0
 obtain ⟨c1_0_0, c1_0_1⟩ := (bo1 K1).c2
 obtain ⟨c1_1_0, c1_1_1⟩ := (bo2 K1).c2
 go_wp2_with fail
 refine (Y.out _ (hL.out _ K1.out.1)).mono ?_
 rintro e W2 ⟨rfl, hb⟩
 have K2 := bsb K1 hb
 clear c1_0_0 c1_0_1 c1_1_0 c1_1_1
 clear hb K1
 obtain ⟨c2_0_0, c2_0_1⟩ := (bo1 K2).c2
 obtain ⟨c2_1_0, c2_1_1⟩ := (bo2 K2).c2
 go_wp2
 go_ret
 exact ⟨rfl, K2.out.1⟩
theorem scmp_5 (i a : Int)
  (X : Hid (∀ w : World, Cvl.Lens w → Calls Tryz.prog 32 #[.agg #[vi ki i, vi ki a]] w fun r' w' => r' = zr (.bool true) ∧ Below w.heap.size w w'))
  (Y : Hid (∀ w : World, Cvl.Lens w → Calls Tryz.prog 32 #[.agg #[vi ki i, vi ki a]] w fun r' w' => r' = zr (.bool true) ∧ Below w.heap.size w w'))
  (w : World) (hL : Hid (∀ W : World, Below w.heap.size w W → Cvl.Lens W)) :
  Calls Tryz.prog 92 #[.agg #[vi ki i, vi ki a], .agg #[vi ki i, vi ki a]] w fun r' w' => r' = zr (vi ki (0)) ∧ Below w.heap.size w w' := by
 have K0 := bsn2 w [vi ki i, vi ki a] 36 [vi ki i, vi ki a] 36
 go_enter Tryz.func92, Tryz.ntmps92
 go_wp2_with fail
 refine (X.out _ (hL.out _ K0.out.1)).mono ?_
 rintro e W1 ⟨rfl, hb⟩
 have K1 := bsb K0 hb
 clear hb K0
 obtain ⟨c1_0_0, c1_0_1⟩ := (bo1 K1).c2
 obtain ⟨c1_1_0, c1_1_1⟩ := (bo2 K1).c2
 go_wp2_with fail
 refine (Y.out _ (hL.out _ K1.out.1)).mono ?_
 rintro e W2 ⟨rfl, hb⟩
 have K2 := bsb K1 hb
 clear c1_0_0 c1_0_1 c1_1_0 c1_1_1
 clear hb K1
 obtain ⟨c2_0_0, c2_0_1⟩ := (bo1 K2).c2
 obtain ⟨c2_1_0, c2_1_1⟩ := (bo2 K2).c2
 go_wp2
 go_ret
 exact ⟨rfl, K2.out.1⟩
end Go.Proofs.YtklehbmghjcmaaaGreatDoor.Dy
namespace Go.Proofs.YtklehbmghjcmaaaGreatDoor.Dy
open Go.RowKit
theorem sof_no (i u : Int)
  (R : Hid (∀ w : World, Cvl.Lens w → Calls Tryz.prog 32 #[.agg #[vi ki i, vi ki u]] w fun r' w' => r' = zr (.bool false) ∧ Below w.heap.size w w'))
  (w : World) (hL : Hid (∀ W : World, Below w.heap.size w W → Cvl.Lens W)) :
  Calls Tryz.prog 97 #[.agg #[vi ki i, vi ki u]] w fun r' w' => r' = zr (.tuple #[.agg #[vi ki 0, vi ki 0], vi ki 0, vi ki 1]) ∧ Below w.heap.size w w' := by
 have K0 := bsn2 w [vi ki i, vi ki u] 36 [vi ki 0, vi ki 0] 111
 go_enter Tryz.func97, Tryz.ntmps97
 go_wp2_with fail
 refine (R.out _ (hL.out _ K0.out.1)).mono ?_
 rintro e W1 ⟨rfl, hb⟩
 have K1 := bsb K0 hb
 clear hb K0
 obtain ⟨c1_0_0, c1_0_1⟩ := (bo1 K1).c2
 obtain ⟨z1_0_0, z1_0_1⟩ := (bo1 K1).f2
 obtain ⟨c1_1_0, c1_1_1⟩ := (bo2 K1).c2
 have XF : Hid (Bx (W1.setCells (w.heap.size + 1) 0 [vi ki 0, vi ki 0]) (w.heap.size + 1) [vi ki 0, vi ki 0]) := (K1.out.at (w.heap.size + 1) [vi ki 0, vi ki 0] (by simp)).setAll _ rfl
 have BF : Hid (Below w.heap.size w (W1.setCells (w.heap.size + 1) 0 [vi ki 0, vi ki 0])) := below_setCells (by omega) _ _ _ K1.out.1
 have y0 := XF.out.c 0 rfl
 have y1 := XF.out.c 1 rfl
 simp only [World.setCells, Nat.zero_add] at y0 y1
 clear XF
 go_wp2
 exact bodyPost_ret (v := .tuple #[.agg #[vi ki 0, vi ki 0], vi ki 0, vi ki 1]) (by simp [results, Tryz.results97, go_sem, y0, y1]) rfl ⟨rfl, BF.out⟩
theorem sof_inf (i u : Int) (hi : i ≠ 0)
  (R : Hid (∀ w : World, Cvl.Lens w → Calls Tryz.prog 32 #[.agg #[vi ki i, vi ki u]] w fun r' w' => r' = zr (.bool true) ∧ Below w.heap.size w w'))
  (w : World) (hL : Hid (∀ W : World, Below w.heap.size w W → Cvl.Lens W)) :
  Calls Tryz.prog 97 #[.agg #[vi ki i, vi ki u]] w fun r' w' => r' = zr (.tuple #[.agg #[vi ki i, vi ki 0], vi ki 0, vi ki 0]) ∧ Below w.heap.size w w' := by
 have i1 : (i != 0) = true := bne_iff_ne.2 hi
 have K0 := bsn2 w [vi ki i, vi ki u] 36 [vi ki 0, vi ki 0] 111
 go_enter Tryz.func97, Tryz.ntmps97
 go_wp2_with fail
 refine (R.out _ (hL.out _ K0.out.1)).mono ?_
 rintro e W1 ⟨rfl, hb⟩
 have K1 := bsb K0 hb
 clear hb K0
 obtain ⟨c1_0_0, c1_0_1⟩ := (bo1 K1).c2
 obtain ⟨z1_0_0, z1_0_1⟩ := (bo1 K1).f2
 obtain ⟨c1_1_0, c1_1_1⟩ := (bo2 K1).c2
 have XF : Hid (Bx (W1.setCells (w.heap.size + 1) 0 [vi ki i, vi ki 0]) (w.heap.size + 1) [vi ki i, vi ki 0]) := (K1.out.at (w.heap.size + 1) [vi ki 0, vi ki 0] (by simp)).setAll _ rfl
 have BF : Hid (Below w.heap.size w (W1.setCells (w.heap.size + 1) 0 [vi ki i, vi ki 0])) := below_setCells (by omega) _ _ _ K1.out.1
 have y0 := XF.out.c 0 rfl
 have y1 := XF.out.c 1 rfl
 simp only [World.setCells, Nat.zero_add] at y0 y1
 clear XF
 go_wp2
 exact bodyPost_ret (v := .tuple #[.agg #[vi ki i, vi ki 0], vi ki 0, vi ki 0]) (by simp [results, Tryz.results97, go_sem, y0, y1]) rfl ⟨rfl, BF.out⟩
theorem sof_yes (u q r : Int)
  (R : Hid (∀ w : World, Cvl.Lens w → Calls Tryz.prog 32 #[.agg #[vi ki 0, vi ki u]] w fun r' w' => r' = zr (.bool true) ∧ Below w.heap.size w w'))
  (S : Hid (∀ w : World, Calls Tryz.prog 76 #[vi ki u] w fun r' w' => r' = zr (.tuple #[vi ki q, vi ki r]) ∧ w' = w))
  (w : World) (hL : Hid (∀ W : World, Below w.heap.size w W → Cvl.Lens W)) :
  Calls Tryz.prog 97 #[.agg #[vi ki 0, vi ki u]] w fun r' w' => r' = zr (.tuple #[.agg #[vi ki 0, vi ki q], vi ki r, vi ki 0]) ∧ Below w.heap.size w w' := by
 have K0 := bsn2 w [vi ki 0, vi ki u] 36 [vi ki 0, vi ki 0] 111
 go_enter Tryz.func97, Tryz.ntmps97
 go_wp2_with fail
 refine (R.out _ (hL.out _ K0.out.1)).mono ?_
 rintro e W1 ⟨rfl, hb⟩
 have K1 := bsb K0 hb
 clear hb K0
 obtain ⟨c1_0_0, c1_0_1⟩ := (bo1 K1).c2
 obtain ⟨z1_0_0, z1_0_1⟩ := (bo1 K1).f2
 obtain ⟨c1_1_0, c1_1_1⟩ := (bo2 K1).c2
 go_wp2_with fail
 refine (S.out _).mono ?_
 rintro e W2 ⟨rfl, hw⟩
 rw [hw]
 clear hw W2
 have XF : Hid (Bx (W1.setCells (w.heap.size + 1) 0 [vi ki 0, vi ki q]) (w.heap.size + 1) [vi ki 0, vi ki q]) := (K1.out.at (w.heap.size + 1) [vi ki 0, vi ki 0] (by simp)).setAll _ rfl
 have BF : Hid (Below w.heap.size w (W1.setCells (w.heap.size + 1) 0 [vi ki 0, vi ki q])) := below_setCells (by omega) _ _ _ K1.out.1
 have y0 := XF.out.c 0 rfl
 have y1 := XF.out.c 1 rfl
 simp only [World.setCells, Nat.zero_add] at y0 y1
 clear XF
 go_wp2
 exact bodyPost_ret (v := .tuple #[.agg #[vi ki 0, vi ki q], vi ki r, vi ki 0]) (by simp [results, Tryz.results97, go_sem, y0, y1]) rfl ⟨rfl, BF.out⟩
theorem st_no (i d u : Int)
  (R : Hid (∀ w : World, Cvl.Lens w → Calls Tryz.prog 143 #[.agg #[vi ki i, vi ki d]] w fun r' w' => r' = zr (.bool false) ∧ Below w.heap.size w w'))
  (w : World) (hL : Hid (∀ W : World, Below w.heap.size w W → Cvl.Lens W)) :
  Calls Tryz.prog 100 #[.agg #[vi ki i, vi ki d], vi ki u] w fun r' w' => r' = zr (.tuple #[.agg #[vi ki 0, vi ki 0], vi ki 1]) ∧ Below w.heap.size w w' := by
 have K0 := bsn2 w [vi ki i, vi ki d] 111 [vi ki 0, vi ki 0] 36
 go_enter Tryz.func100, Tryz.ntmps100
 go_wp2_with fail
 refine (R.out _ (hL.out _ K0.out.1)).mono ?_
 rintro e W1 ⟨rfl, hb⟩
 have K1 := bsb K0 hb
 clear hb K0
 obtain ⟨c1_0_0, c1_0_1⟩ := (bo1 K1).c2
 obtain ⟨z1_0_0, z1_0_1⟩ := (bo1 K1).f2
 obtain ⟨c1_1_0, c1_1_1⟩ := (bo2 K1).c2
 have XF : Hid (Bx (W1.setCells (w.heap.size + 1) 0 [vi ki 0, vi ki 0]) (w.heap.size + 1) [vi ki 0, vi ki 0]) := (K1.out.at (w.heap.size + 1) [vi ki 0, vi ki 0] (by simp)).setAll _ rfl
 have BF : Hid (Below w.heap.size w (W1.setCells (w.heap.size + 1) 0 [vi ki 0, vi ki 0])) := below_setCells (by omega) _ _ _ K1.out.1
 have y0 := XF.out.c 0 rfl
 have y1 := XF.out.c 1 rfl
 simp only [World.setCells, Nat.zero_add] at y0 y1
 clear XF
 go_wp2
 exact bodyPost_ret (v := .tuple #[.agg #[vi ki 0, vi ki 0], vi ki 1]) (by simp [results, Tryz.results100, go_sem, y0, y1]) rfl ⟨rfl, BF.out⟩
theorem st_neg (i d u : Int) (hu : u < 0)
  (R : Hid (∀ w : World, Cvl.Lens w → Calls Tryz.prog 143 #[.agg #[vi ki i, vi ki d]] w fun r' w' => r' = zr (.bool true) ∧ Below w.heap.size w w'))
  (w : World) (hL : Hid (∀ W : World, Below w.heap.size w W → Cvl.Lens W)) :
  Calls Tryz.prog 100 #[.agg #[vi ki i, vi ki d], vi ki u] w fun r' w' => r' = zr (.tuple #[.agg #[vi ki 0, vi ki 0], vi ki 1]) ∧ Below w.heap.size w w' := by
 have K0 := bsn2 w [vi ki i, vi ki d] 111 [vi ki 0, vi ki 0] 36
 go_enter Tryz.func100, Tryz.ntmps100
 go_wp2_with fail
 refine (R.out _ (hL.out _ K0.out.1)).mono ?_
 rintro e W1 ⟨rfl, hb⟩
 have K1 := bsb K0 hb
 clear hb K0
 obtain ⟨c1_0_0, c1_0_1⟩ := (bo1 K1).c2
 obtain ⟨z1_0_0, z1_0_1⟩ := (bo1 K1).f2
 obtain ⟨c1_1_0, c1_1_1⟩ := (bo2 K1).c2
 have XF : Hid (Bx (W1.setCells (w.heap.size + 1) 0 [vi ki 0, vi ki 0]) (w.heap.size + 1) [vi ki 0, vi ki 0]) := (K1.out.at (w.heap.size + 1) [vi ki 0, vi ki 0] (by simp)).setAll _ rfl
 have BF : Hid (Below w.heap.size w (W1.setCells (w.heap.size + 1) 0 [vi ki 0, vi ki 0])) := below_setCells (by omega) _ _ _ K1.out.1
 have y0 := XF.out.c 0 rfl
 have y1 := XF.out.c 1 rfl
 simp only [World.setCells, Nat.zero_add] at y0 y1
 clear XF
 go_wp2
 exact bodyPost_ret (v := .tuple #[.agg #[vi ki 0, vi ki 0], vi ki 1]) (by simp [results, Tryz.results100, go_sem, y0, y1]) rfl ⟨rfl, BF.out⟩
theorem st_big (i d u : Int) (hu : 86400000000 < u)
  (R : Hid (∀ w : World, Cvl.Lens w → Calls Tryz.prog 143 #[.agg #[vi ki i, vi ki d]] w fun r' w' => r' = zr (.bool true) ∧ Below w.heap.size w w'))
  (w : World) (hL : Hid (∀ W : World, Below w.heap.size w W → Cvl.Lens W)) :
  Calls Tryz.prog 100 #[.agg #[vi ki i, vi ki d], vi ki u] w fun r' w' => r' = zr (.tuple #[.agg #[vi ki 0, vi ki 0], vi ki 1]) ∧ Below w.heap.size w w' := by
 have h0 : ¬ u < 0 := by omega
 have K0 := bsn2 w [vi ki i, vi ki d] 111 [vi ki 0, vi ki 0] 36
 go_enter Tryz.func100, Tryz.ntmps100
 go_wp2_with fail
 refine (R.out _ (hL.out _ K0.out.1)).mono ?_
 rintro e W1 ⟨rfl, hb⟩
 have K1 := bsb K0 hb
 clear hb K0
 obtain ⟨c1_0_0, c1_0_1⟩ := (bo1 K1).c2
 obtain ⟨z1_0_0, z1_0_1⟩ := (bo1 K1).f2
 obtain ⟨c1_1_0, c1_1_1⟩ := (bo2 K1).c2
 have XF : Hid (Bx (W1.setCells (w.heap.size + 1) 0 [vi ki 0, vi ki 0]) (w.heap.size + 1) [vi ki 0, vi ki 0]) := (K1.out.at (w.heap.size + 1) [vi ki 0, vi ki 0] (by simp)).setAll _ rfl
 have BF : Hid (Below w.heap.size w (W1.setCells (w.heap.size + 1) 0 [vi ki 0, vi ki 0])) := below_setCells (by omega) _ _ _ K1.out.1
 have y0 := XF.out.c 0 rfl
 have y1 := XF.out.c 1 rfl
 simp only [World.setCells, Nat.zero_add] at y0 y1
 clear XF
 go_wp2
 exact bodyPost_ret (v := .tuple #[.agg #[vi ki 0, vi ki 0], vi ki 1]) (by simp [results, Tryz.results100, go_sem, y0, y1]) rfl ⟨rfl, BF.out⟩
theorem st_inf (i d u : Int) (hi : i ≠ 0) (h0 : ¬ u < 0) (h1 : ¬ 86400000000 < u)
  (R : Hid (∀ w : World, Cvl.Lens w → Calls Tryz.prog 143 #[.agg #[vi ki i, vi ki d]] w fun r' w' => r' = zr (.bool true) ∧ Below w.heap.size w w'))
  (w : World) (hL : Hid (∀ W : World, Below w.heap.size w W → Cvl.Lens W)) :
  Calls Tryz.prog 100 #[.agg #[vi ki i, vi ki d], vi ki u] w fun r' w' => r' = zr (.tuple #[.agg #[vi ki i, vi ki 0], vi ki 0]) ∧ Below w.heap.size w w' := by
 have i1 : (i != 0) = true := bne_iff_ne.2 hi
 have K0 := bsn2 w [vi ki i, vi ki d] 111 [vi ki 0, vi ki 0] 36
 go_enter Tryz.func100, Tryz.ntmps100
 go_wp2_with fail
 refine (R.out _ (hL.out _ K0.out.1)).mono ?_
 rintro e W1 ⟨rfl, hb⟩
 have K1 := bsb K0 hb
 clear hb K0
 obtain ⟨c1_0_0, c1_0_1⟩ := (bo1 K1).c2
 obtain ⟨z1_0_0, z1_0_1⟩ := (bo1 K1).f2
 obtain ⟨c1_1_0, c1_1_1⟩ := (bo2 K1).c2
 have XF : Hid (Bx (W1.setCells (w.heap.size + 1) 0 [vi ki i, vi ki 0]) (w.heap.size + 1) [vi ki i, vi ki 0]) := (K1.out.at (w.heap.size + 1) [vi ki 0, vi ki 0] (by simp)).setAll _ rfl
 have BF : Hid (Below w.heap.size w (W1.setCells (w.heap.size + 1) 0 [vi ki i, vi ki 0])) := below_setCells (by omega) _ _ _ K1.out.1
 have y0 := XF.out.c 0 rfl
 have y1 := XF.out.c 1 rfl
 simp only [World.setCells, Nat.zero_add] at y0 y1
 clear XF
 go_wp2
 exact bodyPost_ret (v := .tuple #[.agg #[vi ki i, vi ki 0], vi ki 0]) (by simp [results, Tryz.results100, go_sem, y0, y1]) rfl ⟨rfl, BF.out⟩
theorem st_true (d u : Int) (d1 : -2451507 ≤ d) (d2 : d ≤ 106751982) (h0 : ¬ u < 0) (h1 : ¬ 86400000000 < u)
  (R : Hid (∀ w : World, Cvl.Lens w → Calls Tryz.prog 143 #[.agg #[vi ki 0, vi ki d]] w fun r' w' => r' = zr (.bool true) ∧ Below w.heap.size w w'))
  (Q : Hid (∀ w : World, Cvl.Lens w → Calls Tryz.prog 32 #[.agg #[vi ki 0, vi ki (d * 86400000000 + u)]] w fun r' w' => r' = zr (.bool true) ∧ Below w.heap.size w w'))
  (w : World) (hL : Hid (∀ W : World, Below w.heap.size w W → Cvl.Lens W)) :
  Calls Tryz.prog 100 #[.agg #[vi ki 0, vi ki d], vi ki u] w fun r' w' => r' = zr (.tuple #[.agg #[vi ki 0, vi ki (d * 86400000000 + u)], vi ki 0]) ∧ Below w.heap.size w w' := by
 have K0 := bsn2 w [vi ki 0, vi ki d] 111 [vi ki 0, vi ki 0] 36
 go_enter Tryz.func100, Tryz.ntmps100
 go_wp2_with fail
 refine (R.out _ (hL.out _ K0.out.1)).mono ?_
 rintro e W1 ⟨rfl, hb⟩
 have K1 := bsb K0 hb
 clear hb K0
 obtain ⟨c1_0_0, c1_0_1⟩ := (bo1 K1).c2
 obtain ⟨z1_0_0, z1_0_1⟩ := (bo1 K1).f2
 obtain ⟨c1_1_0, c1_1_1⟩ := (bo2 K1).c2
 have K2 : Hid (BS w [(W1.heap.size, [vi ki 0, vi ki (d * 86400000000 + u)]), (w.heap.size + 1, [vi ki 0, vi ki 0]), (w.heap.size, [vi ki 0, vi ki d])] (W1.alloc (.cells #[vi ki 0, vi ki (d * 86400000000 + u)] 36))) := K1.out.new [vi ki 0, vi ki (d * 86400000000 + u)] 36 rfl
 go_wp2_with fail
 refine (Q.out _ (hL.out _ K2.out.1)).mono ?_
 rintro e W3 ⟨rfl, hb⟩
 have K3 := bsb K2 hb
 clear c1_0_0 c1_0_1 z1_0_0 z1_0_1 c1_1_0 c1_1_1
 clear hb K2
 obtain ⟨c3_0_0, c3_0_1⟩ := (bo1 K3).c2
 obtain ⟨c3_1_0, c3_1_1⟩ := (bo2 K3).c2
 obtain ⟨z3_1_0, z3_1_1⟩ := (bo2 K3).f2
 obtain ⟨c3_2_0, c3_2_1⟩ := (bo3 K3).c2
 have XF : Hid (Bx (W3.setCells (w.heap.size + 1) 0 [vi ki 0, vi ki (d * 86400000000 + u)]) (w.heap.size + 1) [vi ki 0, vi ki (d * 86400000000 + u)]) := (K3.out.at (w.heap.size + 1) [vi ki 0, vi ki 0] (by simp)).setAll _ rfl
 have BF : Hid (Below w.heap.size w (W3.setCells (w.heap.size + 1) 0 [vi ki 0, vi ki (d * 86400000000 + u)])) := below_setCells (by omega) _ _ _ K3.out.1
 have y0 := XF.out.c 0 rfl
 have y1 := XF.out.c 1 rfl
 simp only [World.setCells, Nat.zero_add] at y0 y1
 clear XF
 go_wp2
 exact bodyPost_ret (v := .tuple #[.agg #[vi ki 0, vi ki (d * 86400000000 + u)], vi ki 0]) (by simp [results, Tryz.results100, go_sem, y0, y1]) rfl ⟨rfl, BF.out⟩
theorem st_false (d u : Int) (d1 : -2451507 ≤ d) (d2 : d ≤ 106751982) (h0 : ¬ u < 0) (h1 : ¬ 86400000000 < u)
  (R : Hid (∀ w : World, Cvl.Lens w → Calls Tryz.prog 143 #[.agg #[vi ki 0, vi ki d]] w fun r' w' => r' = zr (.bool true) ∧ Below w.heap.size w w'))
  (Q : Hid (∀ w : World, Cvl.Lens w → Calls Tryz.prog 32 #[.agg #[vi ki 0, vi ki (d * 86400000000 + u)]] w fun r' w' => r' = zr (.bool false) ∧ Below w.heap.size w w'))
  (w : World) (hL : Hid (∀ W : World, Below w.heap.size w W → Cvl.Lens W)) :
  Calls Tryz.prog 100 #[.agg #[vi ki 0, vi ki d], vi ki u] w fun r' w' => r' = zr (.tuple #[.agg #[vi ki 0, vi ki 0], vi ki 10]) ∧ Below w.heap.size w w' := by
 have K0 := bsn2 w [vi ki 0, vi ki d] 111 [vi ki 0, vi ki 0] 36
 go_enter Tryz.func100, Tryz.ntmps100
 go_wp2_with fail
 refine (R.out _ (hL.out _ K0.out.1)).mono ?_
 rintro e W1 ⟨rfl, hb⟩
 have K1 := bsb K0 hb
 clear hb K0
 obtain ⟨c1_0_0, c1_0_1⟩ := (bo1 K1).c2
 obtain ⟨z1_0_0, z1_0_1⟩ := (bo1 K1).f2
 obtain ⟨c1_1_0, c1_1_1⟩ := (bo2 K1).c2
 have K2 : Hid (BS w [(W1.heap.size, [vi ki 0, vi ki (d * 86400000000 + u)]), (w.heap.size + 1, [vi ki 0, vi ki 0]), (w.heap.size, [vi ki 0, vi ki d])] (W1.alloc (.cells #[vi ki 0, vi ki (d * 86400000000 + u)] 36))) := K1.out.new [vi ki 0, vi ki (d * 86400000000 + u)] 36 rfl
 go_wp2_with fail
 refine (Q.out _ (hL.out _ K2.out.1)).mono ?_
 rintro e W3 ⟨rfl, hb⟩
 have K3 := bsb K2 hb
 clear c1_0_0 c1_0_1 z1_0_0 z1_0_1 c1_1_0 c1_1_1
 clear hb K2
 obtain ⟨c3_0_0, c3_0_1⟩ := (bo1 K3).c2
 obtain ⟨c3_1_0, c3_1_1⟩ := (bo2 K3).c2
 obtain ⟨z3_1_0, z3_1_1⟩ := (bo2 K3).f2
 obtain ⟨c3_2_0, c3_2_1⟩ := (bo3 K3).c2
 have XF : Hid (Bx (W3.setCells (w.heap.size + 1) 0 [vi ki 0, vi ki 0]) (w.heap.size + 1) [vi ki 0, vi ki 0]) := (K3.out.at (w.heap.size + 1) [vi ki 0, vi ki 0] (by simp)).setAll _ rfl
 have BF : Hid (Below w.heap.size w (W3.setCells (w.heap.size + 1) 0 [vi ki 0, vi ki 0])) := below_setCells (by omega) _ _ _ K3.out.1
 have y0 := XF.out.c 0 rfl
 have y1 := XF.out.c 1 rfl
 simp only [World.setCells, Nat.zero_add] at y0 y1
 clear XF
 go_wp2
 exact bodyPost_ret (v := .tuple #[.agg #[vi ki 0, vi ki 0], vi ki 10]) (by simp [results, Tryz.results100, go_sem, y0, y1]) rfl ⟨rfl, BF.out⟩
theorem rt_no (i d u : Int)
  (R : Hid (∀ w : World, Calls Tryz.prog 113 #[.agg #[vi ki i, vi ki d]] w fun r' w' => r' = zr (.bool false) ∧ Below w.heap.size w w'))
  (w : World) :
  Calls Tryz.prog 90 #[.agg #[vi ki i, vi ki d], vi ki u] w fun r' w' => r' = zr (.tuple #[.agg #[vi ki 0, vi ki 0], vi ki 1]) ∧ Below w.heap.size w w' := by
 have K0 := bsn2 w [vi ki i, vi ki d] 111 [vi ki 0, vi ki 0] 36
 go_enter Tryz.func90, Tryz.ntmps90
 go_wp2_with fail
 refine (R.out _).mono ?_
 rintro e W1 ⟨rfl, hb⟩
 have K1 := bsb K0 hb
 clear hb K0
 obtain ⟨c1_0_0, c1_0_1⟩ := (bo1 K1).c2
 obtain ⟨z1_0_0, z1_0_1⟩ := (bo1 K1).f2
 obtain ⟨c1_1_0, c1_1_1⟩ := (bo2 K1).c2
 have XF : Hid (Bx (W1.setCells (w.heap.size + 1) 0 [vi ki 0, vi ki 0]) (w.heap.size + 1) [vi ki 0, vi ki 0]) := (K1.out.at (w.heap.size + 1) [vi ki 0, vi ki 0] (by simp)).setAll _ rfl
 have BF : Hid (Below w.heap.size w (W1.setCells (w.heap.size + 1) 0 [vi ki 0, vi ki 0])) := below_setCells (by omega) _ _ _ K1.out.1
 have y0 := XF.out.c 0 rfl
 have y1 := XF.out.c 1 rfl
 simp only [World.setCells, Nat.zero_add] at y0 y1
 clear XF
 go_wp2
 exact bodyPost_ret (v := .tuple #[.agg #[vi ki 0, vi ki 0], vi ki 1]) (by simp [results, Tryz.results90, go_sem, y0, y1]) rfl ⟨rfl, BF.out⟩
theorem rt_neg (i d u : Int) (hu : u < 0)
  (R : Hid (∀ w : World, Calls Tryz.prog 113 #[.agg #[vi ki i, vi ki d]] w fun r' w' => r' = zr (.bool true) ∧ Below w.heap.size w w'))
  (w : World) :
  Calls Tryz.prog 90 #[.agg #[vi ki i, vi ki d], vi ki u] w fun r' w' => r' = zr (.tuple #[.agg #[vi ki 0, vi ki 0], vi ki 1]) ∧ Below w.heap.size w w' := by
 have K0 := bsn2 w [vi ki i, vi ki d] 111 [vi ki 0, vi ki 0] 36
 go_enter Tryz.func90, Tryz.ntmps90
 go_wp2_with fail
 refine (R.out _).mono ?_
 rintro e W1 ⟨rfl, hb⟩
 have K1 := bsb K0 hb
 clear hb K0
 obtain ⟨c1_0_0, c1_0_1⟩ := (bo1 K1).c2
 obtain ⟨z1_0_0, z1_0_1⟩ := (bo1 K1).f2
 obtain ⟨c1_1_0, c1_1_1⟩ := (bo2 K1).c2
 have XF : Hid (Bx (W1.setCells (w.heap.size + 1) 0 [vi ki 0, vi ki 0]) (w.heap.size + 1) [vi ki 0, vi ki 0]) := (K1.out.at (w.heap.size + 1) [vi ki 0, vi ki 0] (by simp)).setAll _ rfl
 have BF : Hid (Below w.heap.size w (W1.setCells (w.heap.size + 1) 0 [vi ki 0, vi ki 0])) := below_setCells (by omega) _ _ _ K1.out.1
 have y0 := XF.out.c 0 rfl
 have y1 := XF.out.c 1 rfl
 simp only [World.setCells, Nat.zero_add] at y0 y1
 clear XF
 go_wp2
 exact bodyPost_ret (v := .tuple #[.agg #[vi ki 0, vi ki 0], vi ki 1]) (by simp [results, Tryz.results90, go_sem, y0, y1]) rfl ⟨rfl, BF.out⟩
theorem rt_big (i d u : Int) (hu : 86400000000 < u)
  (R : Hid (∀ w : World, Calls Tryz.prog 113 #[.agg #[vi ki i, vi ki d]] w fun r' w' => r' = zr (.bool true) ∧ Below w.heap.size w w'))
  (w : World) :
  Calls Tryz.prog 90 #[.agg #[vi ki i, vi ki d], vi ki u] w fun r' w' => r' = zr (.tuple #[.agg #[vi ki 0, vi ki 0], vi ki 1]) ∧ Below w.heap.size w w' := by
 have h0 : ¬ u < 0 := by omega
 have K0 := bsn2 w [vi ki i, vi ki d] 111 [vi ki 0, vi ki 0] 36
 go_enter Tryz.func90, Tryz.ntmps90
 go_wp2_with fail
 refine (R.out _).mono ?_
 rintro e W1 ⟨rfl, hb⟩
 have K1 := bsb K0 hb
 clear hb K0
 obtain ⟨c1_0_0, c1_0_1⟩ := (bo1 K1).c2
 obtain ⟨z1_0_0, z1_0_1⟩ := (bo1 K1).f2
 obtain ⟨c1_1_0, c1_1_1⟩ := (bo2 K1).c2
 have XF : Hid (Bx (W1.setCells (w.heap.size + 1) 0 [vi ki 0, vi ki 0]) (w.heap.size + 1) [vi ki 0, vi ki 0]) := (K1.out.at (w.heap.size + 1) [vi ki 0, vi ki 0] (by simp)).setAll _ rfl
 have BF : Hid (Below w.heap.size w (W1.setCells (w.heap.size + 1) 0 [vi ki 0, vi ki 0])) := below_setCells (by omega) _ _ _ K1.out.1
 have y0 := XF.out.c 0 rfl
 have y1 := XF.out.c 1 rfl
 simp only [World.setCells, Nat.zero_add] at y0 y1
 clear XF
 go_wp2
 exact bodyPost_ret (v := .tuple #[.agg #[vi ki 0, vi ki 0], vi ki 1]) (by simp [results, Tryz.results90, go_sem, y0, y1]) rfl ⟨rfl, BF.out⟩
theorem rt_inf (i d u : Int) (hi : i ≠ 0) (h0 : ¬ u < 0) (h1 : ¬ 86400000000 < u)
  (R : Hid (∀ w : World, Calls Tryz.prog 113 #[.agg #[vi ki i, vi ki d]] w fun r' w' => r' = zr (.bool true) ∧ Below w.heap.size w w'))
  (w : World) :
  Calls Tryz.prog 90 #[.agg #[vi ki i, vi ki d], vi ki u] w fun r' w' => r' = zr (.tuple #[.agg #[vi ki i, vi ki 0], vi ki 0]) ∧ Below w.heap.size w w' := by
 have i1 : (i != 0) = true := bne_iff_ne.2 hi
 have K0 := bsn2 w [vi ki i, vi ki d] 111 [vi ki 0, vi ki 0] 36
 go_enter Tryz.func90, Tryz.ntmps90
 go_wp2_with fail
 refine (R.out _).mono ?_
 rintro e W1 ⟨rfl, hb⟩
 have K1 := bsb K0 hb
 clear hb K0
 obtain ⟨c1_0_0, c1_0_1⟩ := (bo1 K1).c2
 obtain ⟨z1_0_0, z1_0_1⟩ := (bo1 K1).f2
 obtain ⟨c1_1_0, c1_1_1⟩ := (bo2 K1).c2
 have XF : Hid (Bx (W1.setCells (w.heap.size + 1) 0 [vi ki i, vi ki 0]) (w.heap.size + 1) [vi ki i, vi ki 0]) := (K1.out.at (w.heap.size + 1) [vi ki 0, vi ki 0] (by simp)).setAll _ rfl
 have BF : Hid (Below w.heap.size w (W1.setCells (w.heap.size + 1) 0 [vi ki i, vi ki 0])) := below_setCells (by omega) _ _ _ K1.out.1
 have y0 := XF.out.c 0 rfl
 have y1 := XF.out.c 1 rfl
 simp only [World.setCells, Nat.zero_add] at y0 y1
 clear XF
 go_wp2
 exact bodyPost_ret (v := .tuple #[.agg #[vi ki i, vi ki 0], vi ki 0]) (by simp [results, Tryz.results90, go_sem, y0, y1]) rfl ⟨rfl, BF.out⟩
theorem rt_true (d u : Int) (d1 : -2451507 ≤ d) (d2 : d ≤ 106751982) (h0 : ¬ u < 0) (h1 : u < 86400000000)
  (R : Hid (∀ w : World, Calls Tryz.prog 113 #[.agg #[vi ki 0, vi ki d]] w fun r' w' => r' = zr (.bool true) ∧ Below w.heap.size w w'))
  (C : Hid (∀ w : World, Calls Tryz.prog 83 #[vi ki d] w fun r' w' => r' = zr (.bool true) ∧ w' = w))
  (w : World) :
  Calls Tryz.prog 90 #[.agg #[vi ki 0, vi ki d], vi ki u] w fun r' w' => r' = zr (.tuple #[.agg #[vi ki 0, vi ki (d * 86400000000 + u)], vi ki 0]) ∧ Below w.heap.size w w' := by
 have h2 : ¬ 86400000000 < u := by omega
 have h3 : (u == 86400000000) = false := by simp; omega
 have K0 := bsn2 w [vi ki 0, vi ki d] 111 [vi ki 0, vi ki 0] 36
 go_enter Tryz.func90, Tryz.ntmps90
 go_wp2_with fail
 refine (R.out _).mono ?_
 rintro e W1 ⟨rfl, hb⟩
 have K1 := bsb K0 hb
 clear hb K0
 obtain ⟨c1_0_0, c1_0_1⟩ := (bo1 K1).c2
 obtain ⟨z1_0_0, z1_0_1⟩ := (bo1 K1).f2
 obtain ⟨c1_1_0, c1_1_1⟩ := (bo2 K1).c2
 go_wp2_with fail
 refine (C.out _).mono ?_
 rintro e W2 ⟨rfl, hw⟩
 rw [hw]
 clear hw W2
 have XF : Hid (Bx (W1.setCells (w.heap.size + 1) 0 [vi ki 0, vi ki (d * 86400000000 + u)]) (w.heap.size + 1) [vi ki 0, vi ki (d * 86400000000 + u)]) := (K1.out.at (w.heap.size + 1) [vi ki 0, vi ki 0] (by simp)).setAll _ rfl
 have BF : Hid (Below w.heap.size w (W1.setCells (w.heap.size + 1) 0 [vi ki 0, vi ki (d * 86400000000 + u)])) := below_setCells (by omega) _ _ _ K1.out.1
 have y0 := XF.out.c 0 rfl
 have y1 := XF.out.c 1 rfl
 simp only [World.setCells, Nat.zero_add] at y0 y1
 clear XF
 go_wp2
 exact bodyPost_ret (v := .tuple #[.agg #[vi ki 0, vi ki (d * 86400000000 + u)], vi ki 0]) (by simp [results, Tryz.results90, go_sem, y0, y1]) rfl ⟨rfl, BF.out⟩
theorem rt_end_true (d : Int) (d1 : -2451507 ≤ d) (d2 : d ≤ 106751982)
  (R : Hid (∀ w : World, Calls Tryz.prog 113 #[.agg #[vi ki 0, vi ki d]] w fun r' w' => r' = zr (.bool true) ∧ Below w.heap.size w w'))
  (C : Hid (∀ w : World, Calls Tryz.prog 83 #[vi ki (d + 1)] w fun r' w' => r' = zr (.bool true) ∧ w' = w))
  (w : World) :
  Calls Tryz.prog 90 #[.agg #[vi ki 0, vi ki d], vi ki 86400000000] w fun r' w' => r' = zr (.tuple #[.agg #[vi ki 0, vi ki ((d + 1) * 86400000000)], vi ki 0]) ∧ Below w.heap.size w w' := by
 have K0 := bsn2 w [vi ki 0, vi ki d] 111 [vi ki 0, vi ki 0] 36
 go_enter Tryz.func90, Tryz.ntmps90
 go_wp2_with fail
 refine (R.out _).mono ?_
 rintro e W1 ⟨rfl, hb⟩
 have K1 := bsb K0 hb
 clear hb K0
 obtain ⟨c1_0_0, c1_0_1⟩ := (bo1 K1).c2
 obtain ⟨z1_0_0, z1_0_1⟩ := (bo1 K1).f2
 obtain ⟨c1_1_0, c1_1_1⟩ := (bo2 K1).c2
 go_wp2_with fail
 refine (C.out _).mono ?_
 rintro e W2 ⟨rfl, hw⟩
 rw [hw]
 clear hw W2
 have XF : Hid (Bx (W1.setCells (w.heap.size + 1) 0 [vi ki 0, vi ki ((d + 1) * 86400000000)]) (w.heap.size + 1) [vi ki 0, vi ki ((d + 1) * 86400000000)]) := (K1.out.at (w.heap.size + 1) [vi ki 0, vi ki 0] (by simp)).setAll _ rfl
 have BF : Hid (Below w.heap.size w (W1.setCells (w.heap.size + 1) 0 [vi ki 0, vi ki ((d + 1) * 86400000000)])) := below_setCells (by omega) _ _ _ K1.out.1
 have y0 := XF.out.c 0 rfl
 have y1 := XF.out.c 1 rfl
 simp only [World.setCells, Nat.zero_add] at y0 y1
 clear XF
 go_wp2
 exact bodyPost_ret (v := .tuple #[.agg #[vi ki 0, vi ki ((d + 1) * 86400000000)], vi ki 0]) (by simp [results, Tryz.results90, go_sem, y0, y1]) rfl ⟨rfl, BF.out⟩
theorem rt_end_false (d : Int) (d1 : -2451507 ≤ d) (d2 : d ≤ 106751982)
  (R : Hid (∀ w : World, Calls Tryz.prog 113 #[.agg #[vi ki 0, vi ki d]] w fun r' w' => r' = zr (.bool true) ∧ Below w.heap.size w w'))
  (C : Hid (∀ w : World, Calls Tryz.prog 83 #[vi ki (d + 1)] w fun r' w' => r' = zr (.bool false) ∧ w' = w))
  (w : World) :
  Calls Tryz.prog 90 #[.agg #[vi ki 0, vi ki d], vi ki 86400000000] w fun r' w' => r' = zr (.tuple #[.agg #[vi ki 0, vi ki 0], vi ki 10]) ∧ Below w.heap.size w w' := by
 have K0 := bsn2 w [vi ki 0, vi ki d] 111 [vi ki 0, vi ki 0] 36
 go_enter Tryz.func90, Tryz.ntmps90
 go_wp2_with fail
 refine (R.out _).mono ?_
 rintro e W1 ⟨rfl, hb⟩
 have K1 := bsb K0 hb
 clear hb K0
 obtain ⟨c1_0_0, c1_0_1⟩ := (bo1 K1).c2
 obtain ⟨z1_0_0, z1_0_1⟩ := (bo1 K1).f2
 obtain ⟨c1_1_0, c1_1_1⟩ := (bo2 K1).c2
 go_wp2_with fail
 refine (C.out _).mono ?_
 rintro e W2 ⟨rfl, hw⟩
 rw [hw]
 clear hw W2
 have XF : Hid (Bx (W1.setCells (w.heap.size + 1) 0 [vi ki 0, vi ki 0]) (w.heap.size + 1) [vi ki 0, vi ki 0]) := (K1.out.at (w.heap.size + 1) [vi ki 0, vi ki 0] (by simp)).setAll _ rfl
 have BF : Hid (Below w.heap.size w (W1.setCells (w.heap.size + 1) 0 [vi ki 0, vi ki 0])) := below_setCells (by omega) _ _ _ K1.out.1
 have y0 := XF.out.c 0 rfl
 have y1 := XF.out.c 1 rfl
 simp only [World.setCells, Nat.zero_add] at y0 y1
 clear XF
 go_wp2
 exact bodyPost_ret (v := .tuple #[.agg #[vi ki 0, vi ki 0], vi ki 10]) (by simp [results, Tryz.results90, go_sem, y0, y1]) rfl ⟨rfl, BF.out⟩
end Go.Proofs.YtklehbmghjcmaaaGreatDoor.Dy
namespace Go.Proofs.YtklehbmghjcmaaaGreatDoor.Dy
open Go.RowKit
def mkV (y m d : Int) : Int := oV (Cvl.dayV y m d) (Cvl.dayE y m d)
def mkE (y m d : Int) : Int := oE (Cvl.dayV y m d) (Cvl.dayE y m d)
theorem rmake_any (y m d : Int) (w : World) :
  Calls Tryz.prog 67 #[vi ki y, vi ki m, vi ki d] w fun r w' => r = zr (.tuple #[.agg #[vi ki 0, vi ki (mkV y m d)], vi ki (mkE y m d)]) ∧ Below w.heap.size w w' := by
 have D := Cvl.rdays_any y m d
 unfold mkV mkE
 generalize Cvl.dayV y m d = v at *
 generalize Cvl.dayE y m d = e at *
 by_cases he : e = 0
 ·subst he
  cases h : dok v
  ·rw [(o_no (.inr h)).1, (o_no (.inr h)).2]; exact rmake_false y m d v D (fun w => by rw [← h]; exact inside_any v w) w
  ·rw [(o_yes h).1, (o_yes h).2]; exact rmake_true y m d v D (fun w => by rw [← h]; exact inside_any v w) w
 ·rw [(o_no (.inl he)).1, (o_no (.inl he)).2]; exact rmake_bad y m d v e he D w
def PartsIs (i d y m q e : Int) : Prop := (dR i d = false ∧ y = 0 ∧ m = 0 ∧ q = 0 ∧ e = 1) ∨ (dR i d = true ∧ i ≠ 0 ∧ y = 0 ∧ m = 0 ∧ q = 0 ∧ e = 10) ∨ (i = 0 ∧ dok d = true ∧ Cv.Is d y m q ∧ e = 0)
theorem parts_any (i d y m q e : Int) (h : PartsIs i d y m q e) (w : World) (hL : Cvl.Lens w) :
  Calls Tryz.prog 153 #[.agg #[vi ki i, vi ki d]] w fun r w' => r = zr (.tuple #[vi ki y, vi ki m, vi ki q, vi ki e]) ∧ Below w.heap.size w w' := by
 rcases h with ⟨h, rfl, rfl, rfl, rfl⟩ | ⟨h, h0, rfl, rfl, rfl, rfl⟩ | ⟨rfl, h, hd, rfl⟩
 ·exact parts_no i d (fun w hh => by rw [← h]; exact right_any i d w hh) w (lens_of hL)
 ·exact parts_inf i d h0 (fun w hh => by rw [← h]; exact right_any i d w hh) w (lens_of hL)
 ·exact parts_yes d y m q 0 (fun w hh => by rw [← h]; exact right_any 0 d w hh) (fun w hh => Cvl.date_yes d y m q (can_dok h) hd w hh) w (lens_of hL)
def mvI (i d : Int) : Int := if dR i d = true then i else 0
def mvV (i d v e : Int) : Int := if dR i d = true then (if i = 0 then oV v e else d) else 0
def mvE (i d v e : Int) : Int := if dR i d = true then (if i = 0 then oE v e else 0) else 1
theorem mv_no {i d : Int} (h : dR i d = false) (v e : Int) : mvI i d = 0 ∧ mvV i d v e = 0 ∧ mvE i d v e = 1 := by
 have k : ¬ dR i d = true := by rw [h]; decide
 exact ⟨if_neg k, if_neg k, if_neg k⟩
theorem mv_inf {i d : Int} (h : dR i d = true) (h0 : i ≠ 0) (v e : Int) : mvI i d = i ∧ mvV i d v e = d ∧ mvE i d v e = 0 :=
 ⟨if_pos h, by unfold mvV; rw [if_pos h, if_neg h0], by unfold mvE; rw [if_pos h, if_neg h0]⟩
theorem mv_yes {d : Int} (h : dR 0 d = true) (v e : Int) : mvI 0 d = 0 ∧ mvV 0 d v e = oV v e ∧ mvE 0 d v e = oE v e :=
 ⟨if_pos h, by unfold mvV; rw [if_pos h, if_pos rfl], by unfold mvE; rw [if_pos h, if_pos rfl]⟩
theorem day_i64 {d : Int} (h : dok d = true) : -9223372036854775808 ≤ d ∧ d ≤ 9223372036854775807 := by have := dok_yes h; omega
theorem dadd_any (i d n : Int) (h1 : -9223372036854775808 ≤ n) (h2 : n ≤ 9223372036854775807) (w : World) (hL : Cvl.Lens w) :
  Calls Tryz.prog 99 #[.agg #[vi ki i, vi ki d], vi ki n] w fun r w' => r = zr (.tuple #[.agg #[vi ki (mvI i d), vi ki (mvV i d (smV (d + n)) (smE (d + n)))], vi ki (mvE i d (smV (d + n)) (smE (d + n)))]) ∧ Below w.heap.size w w' := by
 refine dadd_run i d n _ _ _ (fun w hL => ?_) w (lens_of hL)
 cases h : dR i d
 ·obtain ⟨a, b, c⟩ := mv_no h (smV (d + n)) (smE (d + n))
  rw [a, b, c]; exact mvd_no i d n (fun w hh => by rw [← h]; exact right_any i d w hh) w (lens_of hL)
 ·by_cases h0 : i = 0
  ·subst h0
   obtain ⟨a, b, c⟩ := mv_yes h (smV (d + n)) (smE (d + n))
   rw [a, b, c]
   obtain ⟨g1, g2⟩ := day_i64 h
   exact mvd_yes d n _ _ _ _ (fun w hh => by rw [← h]; exact right_any 0 d w hh) (fun w => days_meth n d _ _ (fun w => add_any d n g1 g2 h1 h2 w) w) (fun w hh => of_any _ _ w hh) w (lens_of hL)
  ·obtain ⟨a, b, c⟩ := mv_inf h h0 (smV (d + n)) (smE (d + n))
   rw [a, b, c]; exact mvd_inf i d n h0 (fun w hh => by rw [← h]; exact right_any i d w hh) w (lens_of hL)
theorem dshift_any (i d n y m q : Int) (hq : Cv.Is d y m q) (w : World) (hL : Cvl.Lens w) :
  Calls Tryz.prog 98 #[.agg #[vi ki i, vi ki d], vi ki n] w fun r w' => r = zr (.tuple #[.agg #[vi ki (mvI i d), vi ki (mvV i d (Cvl.shV y m q n) (Cvl.shE y m q n))], vi ki (mvE i d (Cvl.shV y m q n) (Cvl.shE y m q n))]) ∧ Below w.heap.size w w' := by
 refine dshift_run i d n _ _ _ (fun w hL => ?_) w (lens_of hL)
 cases h : dR i d
 ·obtain ⟨a, b, c⟩ := mv_no h (Cvl.shV y m q n) (Cvl.shE y m q n)
  rw [a, b, c]; exact mvm_no i d n (fun w hh => by rw [← h]; exact right_any i d w hh) w (lens_of hL)
 ·by_cases h0 : i = 0
  ·subst h0
   obtain ⟨a, b, c⟩ := mv_yes h (Cvl.shV y m q n) (Cvl.shE y m q n)
   rw [a, b, c]
   exact mvm_yes d n _ _ _ _ (fun w hh => by rw [← h]; exact right_any 0 d w hh) (fun w hh => months_meth n d _ _ (fun w hh => Cvl.shift_any d y m q n (can_dok h) hq w hh) w (lens_of hh)) (fun w hh => of_any _ _ w hh) w (lens_of hL)
  ·obtain ⟨a, b, c⟩ := mv_inf h h0 (Cvl.shV y m q n) (Cvl.shE y m q n)
   rw [a, b, c]; exact mvm_inf i d n h0 (fun w hh => by rw [← h]; exact right_any i d w hh) w (lens_of hL)
def spV (i a j b : Int) : Int := if sR i a = true ∧ sR j b = true then ordV i j a b else 0
theorem ord_1 {i j : Int} (h : i < j) (a b : Int) : ordV i j a b = -1 := if_pos (.inl h)
theorem ord_2 {a b : Int} (h : a < b) (i : Int) : ordV i i a b = -1 := if_pos (.inr ⟨rfl, h⟩)
theorem ord_3 {i j : Int} (h : j < i) (a b : Int) : ordV i j a b = 1 := by unfold ordV; rw [if_neg (by omega), if_pos (.inl h)]
theorem ord_4 {a b : Int} (h : b < a) (i : Int) : ordV i i a b = 1 := by unfold ordV; rw [if_neg (by omega), if_pos (.inr h)]
theorem ord_5 (a i : Int) : ordV i i a a = 0 := by unfold ordV; rw [if_neg (by omega), if_neg (by omega)]
theorem scmp_any (i a j b : Int) (a1 : -9223372036854775808 ≤ a) (a2 : a ≤ 9223372036854775807) (b1 : -9223372036854775808 ≤ b) (b2 : b ≤ 9223372036854775807) (w : World) (hL : Cvl.Lens w) :
  Calls Tryz.prog 92 #[.agg #[vi ki i, vi ki a], .agg #[vi ki j, vi ki b]] w fun r w' => r = zr (vi ki (spV i a j b)) ∧ Below w.heap.size w w' := by
 unfold spV
 cases h : sR i a
 ·rw [if_neg (fun q => absurd q.1 (by decide))]; exact scmp_no1 i a j b (fun w hh => by rw [← h]; exact rst_any i a a1 a2 w hh) w (lens_of hL)
 ·cases k : sR j b
  ·rw [if_neg (fun q => absurd q.2 (by decide))]; exact scmp_no2 i a j b (fun w hh => by rw [← h]; exact rst_any i a a1 a2 w hh) (fun w hh => by rw [← k]; exact rst_any j b b1 b2 w hh) w (lens_of hL)
  ·rw [if_pos ⟨rfl, rfl⟩]
   rcases Int.lt_trichotomy i j with q | q | q
   ·rw [ord_1 q]; exact scmp_1 i a j b q (fun w hh => by rw [← h]; exact rst_any i a a1 a2 w hh) (fun w hh => by rw [← k]; exact rst_any j b b1 b2 w hh) w (lens_of hL)
   ·subst q
    rcases Int.lt_trichotomy a b with q | q | q
    ·rw [ord_2 q]; exact scmp_2 i a b q (fun w hh => by rw [← h]; exact rst_any i a a1 a2 w hh) (fun w hh => by rw [← k]; exact rst_any i b b1 b2 w hh) w (lens_of hL)
    ·subst q
     rw [ord_5]; exact scmp_5 i a (fun w hh => by rw [← h]; exact rst_any i a a1 a2 w hh) (fun w hh => by rw [← h]; exact rst_any i a a1 a2 w hh) w (lens_of hL)
    ·rw [ord_4 q]; exact scmp_4 i a b q (fun w hh => by rw [← h]; exact rst_any i a a1 a2 w hh) (fun w hh => by rw [← k]; exact rst_any i b b1 b2 w hh) w (lens_of hL)
   ·rw [ord_3 q]; exact scmp_3 i a j b q (fun w hh => by rw [← h]; exact rst_any i a a1 a2 w hh) (fun w hh => by rw [← k]; exact rst_any j b b1 b2 w hh) w (lens_of hL)
def ofI (i u : Int) : Int := if sR i u = true then i else 0
def ofD (i u : Int) : Int := if sR i u = true ∧ i = 0 then u / 86400000000 else 0
def ofU (i u : Int) : Int := if sR i u = true ∧ i = 0 then u % 86400000000 else 0
def ofE (i u : Int) : Int := if sR i u = true then 0 else 1
theorem sof_any (i u : Int) (u1 : -9223372036854775808 ≤ u) (u2 : u ≤ 9223372036854775807) (w : World) (hL : Cvl.Lens w) :
  Calls Tryz.prog 97 #[.agg #[vi ki i, vi ki u]] w fun r w' => r = zr (.tuple #[.agg #[vi ki (ofI i u), vi ki (ofD i u)], vi ki (ofU i u), vi ki (ofE i u)]) ∧ Below w.heap.size w w' := by
 unfold ofI ofD ofU ofE
 cases h : sR i u
 ·rw [if_neg (by decide), if_neg (fun q => absurd q.1 (by decide)), if_neg (fun q => absurd q.1 (by decide)), if_neg (by decide)]; exact sof_no i u (fun w hh => by rw [← h]; exact rst_any i u u1 u2 w hh) w (lens_of hL)
 ·by_cases h0 : i = 0
  ·subst h0
   rw [if_pos rfl, if_pos ⟨rfl, rfl⟩, if_pos ⟨rfl, rfl⟩, if_pos rfl]; exact sof_yes u _ _ (fun w hh => by rw [← h]; exact rst_any 0 u u1 u2 w hh) (fun w => split_any u u1 u2 w) w (lens_of hL)
  ·rw [if_pos rfl, if_neg (fun q => h0 q.2), if_neg (fun q => h0 q.2), if_pos rfl]; exact sof_inf i u h0 (fun w hh => by rw [← h]; exact rst_any i u u1 u2 w hh) w (lens_of hL)
def stR (i d u : Int) : Prop := dR i d = true ∧ 0 ≤ u ∧ u ≤ 86400000000
instance (i d u : Int) : Decidable (stR i d u) := by unfold stR; infer_instance
def stI (i d u : Int) : Int := if stR i d u then i else 0
def stV (i d u : Int) : Int := if stR i d u ∧ i = 0 ∧ dok ((d * 86400000000 + u) / 86400000000) = true then d * 86400000000 + u else 0
def stE (i d u : Int) : Int := if stR i d u then (if i = 0 ∧ dok ((d * 86400000000 + u) / 86400000000) = false then 10 else 0) else 1
theorem st_bd {d u : Int} (h : dok d = true) (h0 : 0 ≤ u) (h1 : u ≤ 86400000000) : -9223372036854775808 ≤ d * 86400000000 + u ∧ d * 86400000000 + u ≤ 9223372036854775807 := by have := dok_yes h; omega
theorem st_not {i d u : Int} (h : ¬ stR i d u) : stI i d u = 0 ∧ stV i d u = 0 ∧ stE i d u = 1 := ⟨if_neg h, if_neg (fun k => h k.1), if_neg h⟩
theorem st_infs {i d u : Int} (h : stR i d u) (h0 : i ≠ 0) : stI i d u = i ∧ stV i d u = 0 ∧ stE i d u = 0 :=
 ⟨if_pos h, if_neg (fun k => h0 k.2.1), by unfold stE; rw [if_pos h, if_neg (fun k => h0 k.1)]⟩
theorem st_in {d u : Int} (h : stR 0 d u) (hk : dok ((d * 86400000000 + u) / 86400000000) = true) : stI 0 d u = 0 ∧ stV 0 d u = d * 86400000000 + u ∧ stE 0 d u = 0 :=
 ⟨if_pos h, if_pos ⟨h, rfl, hk⟩, by unfold stE; rw [if_pos h, if_neg (fun k => by rw [hk] at k; exact absurd k.2 (by decide))]⟩
theorem st_out {d u : Int} (h : stR 0 d u) (hk : dok ((d * 86400000000 + u) / 86400000000) = false) : stI 0 d u = 0 ∧ stV 0 d u = 0 ∧ stE 0 d u = 10 :=
 ⟨if_pos h, if_neg (fun k => by rw [hk] at k; exact absurd k.2.2 (by decide)), by unfold stE; rw [if_pos h, if_pos ⟨rfl, hk⟩]⟩
theorem stamp_any (i d u : Int) (w : World) (hL : Cvl.Lens w) :
  Calls Tryz.prog 100 #[.agg #[vi ki i, vi ki d], vi ki u] w fun r w' => r = zr (.tuple #[.agg #[vi ki (stI i d u), vi ki (stV i d u)], vi ki (stE i d u)]) ∧ Below w.heap.size w w' := by
 have RR : ∀ c, dR i d = c → Hid (∀ w : World, Cvl.Lens w → Calls Tryz.prog 143 #[.agg #[vi ki i, vi ki d]] w fun r w' => r = zr (.bool c) ∧ Below w.heap.size w w') := fun c hc w hh => by rw [← hc]; exact right_any i d w hh
 by_cases hs : stR i d u
 ·by_cases h0 : i = 0
  ·subst h0
   have hd : dok d = true := hs.1
   obtain ⟨g1, g2⟩ := dok_yes hd
   obtain ⟨b1, b2⟩ := st_bd hd hs.2.1 hs.2.2
   cases hk : dok ((d * 86400000000 + u) / 86400000000)
   ·obtain ⟨a, b, c⟩ := st_out hs hk
    rw [a, b, c]; exact st_false d u g1 g2 (by have := hs.2.1; omega) (by have := hs.2.2; omega) (RR true hs.1) (fun w hh => by have R := rst_any 0 (d * 86400000000 + u) b1 b2 w hh; rw [sR_0, hk] at R; exact R) w (lens_of hL)
   ·obtain ⟨a, b, c⟩ := st_in hs hk
    rw [a, b, c]; exact st_true d u g1 g2 (by have := hs.2.1; omega) (by have := hs.2.2; omega) (RR true hs.1) (fun w hh => by have R := rst_any 0 (d * 86400000000 + u) b1 b2 w hh; rw [sR_0, hk] at R; exact R) w (lens_of hL)
  ·obtain ⟨a, b, c⟩ := st_infs hs h0
   rw [a, b, c]; exact st_inf i d u h0 (by have := hs.2.1; omega) (by have := hs.2.2; omega) (RR true hs.1) w (lens_of hL)
 ·obtain ⟨a, b, c⟩ := st_not hs
  rw [a, b, c]
  cases h : dR i d
  ·exact st_no i d u (RR false h) w (lens_of hL)
  ·by_cases h1 : u < 0
   ·exact st_neg i d u h1 (RR true h) w (lens_of hL)
   ·exact st_big i d u (by unfold stR at hs; have : ¬ (0 ≤ u ∧ u ≤ 86400000000) := fun k => hs ⟨h, k⟩; omega) (RR true h) w (lens_of hL)
theorem rstamp_any (i d u : Int) (w : World) :
  Calls Tryz.prog 90 #[.agg #[vi ki i, vi ki d], vi ki u] w fun r w' => r = zr (.tuple #[.agg #[vi ki (stI i d u), vi ki (stV i d u)], vi ki (stE i d u)]) ∧ Below w.heap.size w w' := by
 have RR : ∀ c, dR i d = c → Hid (∀ w : World, Calls Tryz.prog 113 #[.agg #[vi ki i, vi ki d]] w fun r w' => r = zr (.bool c) ∧ Below w.heap.size w w') := fun c hc w => by rw [← hc]; exact rright_any i d w
 by_cases hs : stR i d u
 ·by_cases h0 : i = 0
  ·subst h0
   have hd : dok d = true := hs.1
   obtain ⟨g1, g2⟩ := dok_yes hd
   by_cases hu : u = 86400000000
   ·subst hu
    have e1 : (d * 86400000000 + 86400000000) / 86400000000 = d + 1 := by omega
    have e2 : d * 86400000000 + 86400000000 = (d + 1) * 86400000000 := by omega
    cases hk : dok (d + 1)
    ·obtain ⟨a, b, c⟩ := st_out hs (by rw [e1]; exact hk)
     rw [a, b, c]; exact rt_end_false d g1 g2 (RR true hs.1) (fun w => by rw [← hk]; exact inside_any (d + 1) w) w
    ·obtain ⟨a, b, c⟩ := st_in hs (by rw [e1]; exact hk)
     rw [a, b, c, e2]; exact rt_end_true d g1 g2 (RR true hs.1) (fun w => by rw [← hk]; exact inside_any (d + 1) w) w
   ·have e1 : (d * 86400000000 + u) / 86400000000 = d := by have := hs.2; omega
    obtain ⟨a, b, c⟩ := st_in hs (by rw [e1]; exact hd)
    rw [a, b, c]; exact rt_true d u g1 g2 (by have := hs.2.1; omega) (by have := hs.2.2; omega) (RR true hs.1) (fun w => by rw [← hd]; exact inside_any d w) w
  ·obtain ⟨a, b, c⟩ := st_infs hs h0
   rw [a, b, c]; exact rt_inf i d u h0 (by have := hs.2.1; omega) (by have := hs.2.2; omega) (RR true hs.1) w
 ·obtain ⟨a, b, c⟩ := st_not hs
  rw [a, b, c]
  cases h : dR i d
  ·exact rt_no i d u (RR false h) w
  ·by_cases h1 : u < 0
   ·exact rt_neg i d u h1 (RR true h) w
   ·exact rt_big i d u (by unfold stR at hs; have : ¬ (0 ≤ u ∧ u ≤ 86400000000) := fun k => hs ⟨h, k⟩; omega) (RR true h) w
end Go.Proofs.YtklehbmghjcmaaaGreatDoor.Dy
