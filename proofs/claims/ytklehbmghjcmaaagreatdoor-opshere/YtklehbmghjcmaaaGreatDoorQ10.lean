import Derived.Test.YtklehbmghjcmaaaGreatDoorQz
import Derived.Test.YtklehbmghjcmaaaGreatDoorQ9
import Derived.Test.YtklehbmghjcmaaaGreatDoorQ0
import Derived.Deep.Cut
import Derived.Test.YtklehbmghjcmaaaGreatDoorQ7
import Derived.Test.YtklehbmghjcmaaaGreatDoorQ8
import Derived.Test.YtklehbmghjcmaaaGreatDoorQ6
import Derived.SizedLaws
import Derived.Deep.QuietTactic
import Derived.BigQuiet
open Go.Value renaming int → vi
open Go.IntKind renaming i64 → ki
open List renaming setIfInBounds_toArray → zb, set_cons_zero → zc, set_cons_succ → zd
open Go.Act renaming put → za
open Go.Ending renaming returned → zr
set_option maxRecDepth 100000
set_option maxHeartbeats 16000000
set_option linter.unusedVariables false
namespace Go.Proofs.YtklehbmghjcmaaaGreatDoor.Dy
open Go.RowKit
theorem make_run (y m d v e V E : Int)
  (D : Hid (∀ w : World, Cvl.Lens w → Calls Tryz.prog 192 #[vi ki y, vi ki m, vi ki d] w fun r' w' => r' = zr (.tuple #[vi ki v, vi ki e]) ∧ w' = w))
  (O : Hid (∀ w : World, Cvl.Lens w → Calls Tryz.prog 186 #[vi ki v, vi ki e] w fun r' w' => r' = zr (.tuple #[.agg #[vi ki 0, vi ki V], vi ki E]) ∧ Below w.heap.size w w'))
  (w : World) (hL : Hid (∀ W : World, Below w.heap.size w W → Cvl.Lens W)) :
  Calls Tryz.prog 155 #[vi ki y, vi ki m, vi ki d] w fun r' w' => r' = zr (.tuple #[.agg #[vi ki 0, vi ki V], vi ki E]) ∧ Below w.heap.size w w' := by
 have K0 := bsn1 w [vi ki 0, vi ki 0] 111
 go_enter Tryz.func155, Tryz.ntmps155
 go_wp2_with fail
 refine (D.out _ (hL.out _ K0.out.1)).mono ?_
 rintro e W1 ⟨rfl, rfl⟩
 go_wp2_with fail
 refine (O.out _ (hL.out _ K0.out.1)).mono ?_
 rintro e W2 ⟨rfl, hb⟩
 have K2 := bsb K0 hb
 clear hb K0
 obtain ⟨c2_0_0, c2_0_1⟩ := (bo1 K2).c2
 obtain ⟨z2_0_0, z2_0_1⟩ := (bo1 K2).f2
 have XF : Hid (Bx (W2.setCells (w.heap.size) 0 [vi ki 0, vi ki V]) (w.heap.size) [vi ki 0, vi ki V]) := (K2.out.at (w.heap.size) [vi ki 0, vi ki 0] (by simp)).setAll _ rfl
 have BF : Hid (Below w.heap.size w (W2.setCells (w.heap.size) 0 [vi ki 0, vi ki V])) := below_setCells (by omega) _ _ _ K2.out.1
 have y0 := XF.out.c 0 rfl
 have y1 := XF.out.c 1 rfl
 simp only [World.setCells, Nat.zero_add] at y0 y1
 clear XF
 go_wp2
 exact bodyPost_ret (v := .tuple #[.agg #[vi ki 0, vi ki V], vi ki E]) (by simp [results, Tryz.results155, go_sem, y0, y1]) rfl ⟨rfl, BF.out⟩
theorem rmake_bad (y m d v e : Int) (he : e ≠ 0)
  (D : Hid (∀ w : World, Calls Tryz.prog 114 #[vi ki y, vi ki m, vi ki d] w fun r' w' => r' = zr (.tuple #[vi ki v, vi ki e]) ∧ w' = w))
  (w : World) :
  Calls Tryz.prog 67 #[vi ki y, vi ki m, vi ki d] w fun r' w' => r' = zr (.tuple #[.agg #[vi ki 0, vi ki 0], vi ki 10]) ∧ Below w.heap.size w w' := by
 have e1 : (e != 0) = true := bne_iff_ne.2 he
 have K0 := bsn1 w [vi ki 0, vi ki 0] 111
 go_enter Tryz.func67, Tryz.ntmps67
 go_wp2_with fail
 refine (D.out _).mono ?_
 rintro e W1 ⟨rfl, rfl⟩
 go_wp2
 exact bodyPost_ret (v := .tuple #[.agg #[vi ki 0, vi ki 0], vi ki 10]) (by simp [results, Tryz.results67, go_sem]) rfl ⟨rfl, (by repeat' (first | assumption | exact Below.refl _ _ | exact Nat.le_refl _ | refine Below.alloc ?_ ?_ _ | (simp; done) | (simp; omega) | omega))⟩
theorem rmake_true (y m d v : Int)
  (D : Hid (∀ w : World, Calls Tryz.prog 114 #[vi ki y, vi ki m, vi ki d] w fun r' w' => r' = zr (.tuple #[vi ki v, vi ki 0]) ∧ w' = w))
  (C : Hid (∀ w : World, Calls Tryz.prog 83 #[vi ki v] w fun r' w' => r' = zr (.bool true) ∧ w' = w))
  (w : World) :
  Calls Tryz.prog 67 #[vi ki y, vi ki m, vi ki d] w fun r' w' => r' = zr (.tuple #[.agg #[vi ki 0, vi ki v], vi ki 0]) ∧ Below w.heap.size w w' := by
 have K0 := bsn1 w [vi ki 0, vi ki 0] 111
 go_enter Tryz.func67, Tryz.ntmps67
 go_wp2_with fail
 refine (D.out _).mono ?_
 rintro e W1 ⟨rfl, rfl⟩
 go_wp2_with fail
 refine (C.out _).mono ?_
 rintro e W2 ⟨rfl, rfl⟩
 go_wp2
 exact bodyPost_ret (v := .tuple #[.agg #[vi ki 0, vi ki v], vi ki 0]) (by simp [results, Tryz.results67, go_sem]) rfl ⟨rfl, (by repeat' (first | assumption | exact Below.refl _ _ | exact Nat.le_refl _ | refine Below.alloc ?_ ?_ _ | (simp; done) | (simp; omega) | omega))⟩
theorem rmake_false (y m d v : Int)
  (D : Hid (∀ w : World, Calls Tryz.prog 114 #[vi ki y, vi ki m, vi ki d] w fun r' w' => r' = zr (.tuple #[vi ki v, vi ki 0]) ∧ w' = w))
  (C : Hid (∀ w : World, Calls Tryz.prog 83 #[vi ki v] w fun r' w' => r' = zr (.bool false) ∧ w' = w))
  (w : World) :
  Calls Tryz.prog 67 #[vi ki y, vi ki m, vi ki d] w fun r' w' => r' = zr (.tuple #[.agg #[vi ki 0, vi ki 0], vi ki 10]) ∧ Below w.heap.size w w' := by
 have K0 := bsn1 w [vi ki 0, vi ki 0] 111
 go_enter Tryz.func67, Tryz.ntmps67
 go_wp2_with fail
 refine (D.out _).mono ?_
 rintro e W1 ⟨rfl, rfl⟩
 go_wp2_with fail
 refine (C.out _).mono ?_
 rintro e W2 ⟨rfl, rfl⟩
 go_wp2
 exact bodyPost_ret (v := .tuple #[.agg #[vi ki 0, vi ki 0], vi ki 10]) (by simp [results, Tryz.results67, go_sem]) rfl ⟨rfl, (by repeat' (first | assumption | exact Below.refl _ _ | exact Nat.le_refl _ | refine Below.alloc ?_ ?_ _ | (simp; done) | (simp; omega) | omega))⟩
theorem parts_no (i d : Int)
  (R : Hid (∀ w : World, Cvl.Lens w → Calls Tryz.prog 143 #[.agg #[vi ki i, vi ki d]] w fun r' w' => r' = zr (.bool false) ∧ Below w.heap.size w w'))
  (w : World) (hL : Hid (∀ W : World, Below w.heap.size w W → Cvl.Lens W)) :
  Calls Tryz.prog 153 #[.agg #[vi ki i, vi ki d]] w fun r' w' => r' = zr (.tuple #[vi ki 0, vi ki 0, vi ki 0, vi ki 1]) ∧ Below w.heap.size w w' := by
 have K0 := bsn1 w [vi ki i, vi ki d] 111
 go_enter Tryz.func153, Tryz.ntmps153
 go_wp2_with fail
 refine (R.out _ (hL.out _ K0.out.1)).mono ?_
 rintro e W1 ⟨rfl, hb⟩
 have K1 := bsb K0 hb
 clear hb K0
 obtain ⟨c1_0_0, c1_0_1⟩ := (bo1 K1).c2
 go_wp2
 exact bodyPost_ret (v := .tuple #[vi ki 0, vi ki 0, vi ki 0, vi ki 1]) (by simp [results, Tryz.results153, go_sem]) rfl ⟨rfl, K1.out.1⟩
theorem parts_inf (i d : Int) (hi : i ≠ 0)
  (R : Hid (∀ w : World, Cvl.Lens w → Calls Tryz.prog 143 #[.agg #[vi ki i, vi ki d]] w fun r' w' => r' = zr (.bool true) ∧ Below w.heap.size w w'))
  (w : World) (hL : Hid (∀ W : World, Below w.heap.size w W → Cvl.Lens W)) :
  Calls Tryz.prog 153 #[.agg #[vi ki i, vi ki d]] w fun r' w' => r' = zr (.tuple #[vi ki 0, vi ki 0, vi ki 0, vi ki 10]) ∧ Below w.heap.size w w' := by
 have i1 : (i != 0) = true := bne_iff_ne.2 hi
 have K0 := bsn1 w [vi ki i, vi ki d] 111
 go_enter Tryz.func153, Tryz.ntmps153
 go_wp2_with fail
 refine (R.out _ (hL.out _ K0.out.1)).mono ?_
 rintro e W1 ⟨rfl, hb⟩
 have K1 := bsb K0 hb
 clear hb K0
 obtain ⟨c1_0_0, c1_0_1⟩ := (bo1 K1).c2
 go_wp2
 exact bodyPost_ret (v := .tuple #[vi ki 0, vi ki 0, vi ki 0, vi ki 10]) (by simp [results, Tryz.results153, go_sem]) rfl ⟨rfl, K1.out.1⟩
theorem parts_yes (d y m q e : Int)
  (R : Hid (∀ w : World, Cvl.Lens w → Calls Tryz.prog 143 #[.agg #[vi ki 0, vi ki d]] w fun r' w' => r' = zr (.bool true) ∧ Below w.heap.size w w'))
  (D : Hid (∀ w : World, Cvl.Lens w → Calls Tryz.prog 126 #[vi ki d] w fun r' w' => r' = zr (.tuple #[vi ki y, vi ki m, vi ki q, vi ki e]) ∧ w' = w))
  (w : World) (hL : Hid (∀ W : World, Below w.heap.size w W → Cvl.Lens W)) :
  Calls Tryz.prog 153 #[.agg #[vi ki 0, vi ki d]] w fun r' w' => r' = zr (.tuple #[vi ki y, vi ki m, vi ki q, vi ki e]) ∧ Below w.heap.size w w' := by
 have K0 := bsn1 w [vi ki 0, vi ki d] 111
 go_enter Tryz.func153, Tryz.ntmps153
 go_wp2_with fail
 refine (R.out _ (hL.out _ K0.out.1)).mono ?_
 rintro e W1 ⟨rfl, hb⟩
 have K1 := bsb K0 hb
 clear hb K0
 obtain ⟨c1_0_0, c1_0_1⟩ := (bo1 K1).c2
 go_wp2_with fail
 refine (D.out _ (hL.out _ K1.out.1)).mono ?_
 rintro e W2 ⟨rfl, hw⟩
 rw [hw]
 clear hw W2
 go_wp2
 exact bodyPost_ret (v := .tuple #[vi ki y, vi ki m, vi ki q, vi ki e]) (by simp [results, Tryz.results153, go_sem]) rfl ⟨rfl, K1.out.1⟩
theorem mvd_no (i d n : Int)
  (R : Hid (∀ w : World, Cvl.Lens w → Calls Tryz.prog 143 #[.agg #[vi ki i, vi ki d]] w fun r' w' => r' = zr (.bool false) ∧ Below w.heap.size w w'))
  (w : World) (hL : Hid (∀ W : World, Below w.heap.size w W → Cvl.Lens W)) :
  Calls Tryz.prog 140 #[.agg #[vi ki i, vi ki d], .func (.func 142) #[vi ki n] #[]] w fun r' w' => r' = zr (.tuple #[.agg #[vi ki 0, vi ki 0], vi ki 1]) ∧ Below w.heap.size w w' := by
 have K0 := bsn2 w [vi ki i, vi ki d] 111 [vi ki 0, vi ki 0] 111
 go_enter Tryz.func140, Tryz.ntmps140
 go_wp2_with fail
 refine (R.out _ (hL.out _ K0.out.1)).mono ?_
 rintro e W1 ⟨rfl, hb⟩
 have K1 := bsb K0 hb
 clear hb K0
 obtain ⟨c1_0_0, c1_0_1⟩ := (bo1 K1).c2
 obtain ⟨z1_0_0, z1_0_1⟩ := (bo1 K1).f2
 obtain ⟨c1_1_0, c1_1_1⟩ := (bo2 K1).c2
 have XF : Hid (Bx (W1.setCells (w.heap.size + 1) 0 [vi ki 0, vi ki 0]) (w.heap.size + 1) [vi ki 0, vi ki 0]) := (K1.out.at (w.heap.size + 1) [vi ki 0, vi ki 0] (by simp)).setAll _ rfl
 have BF : Hid (Below w.heap.size w (W1.setCells (w.heap.size + 1) 0 [vi ki 0, vi ki 0])) := below_setCells (by omega) _ _ _ K1.out.1
 have y0 := XF.out.c 0 rfl
 have y1 := XF.out.c 1 rfl
 simp only [World.setCells, Nat.zero_add] at y0 y1
 clear XF
 go_wp2
 exact bodyPost_ret (v := .tuple #[.agg #[vi ki 0, vi ki 0], vi ki 1]) (by simp [results, Tryz.results140, go_sem, y0, y1]) rfl ⟨rfl, BF.out⟩
theorem mvd_inf (i d n : Int) (hi : i ≠ 0)
  (R : Hid (∀ w : World, Cvl.Lens w → Calls Tryz.prog 143 #[.agg #[vi ki i, vi ki d]] w fun r' w' => r' = zr (.bool true) ∧ Below w.heap.size w w'))
  (w : World) (hL : Hid (∀ W : World, Below w.heap.size w W → Cvl.Lens W)) :
  Calls Tryz.prog 140 #[.agg #[vi ki i, vi ki d], .func (.func 142) #[vi ki n] #[]] w fun r' w' => r' = zr (.tuple #[.agg #[vi ki i, vi ki d], vi ki 0]) ∧ Below w.heap.size w w' := by
 have i1 : (i != 0) = true := bne_iff_ne.2 hi
 have K0 := bsn2 w [vi ki i, vi ki d] 111 [vi ki 0, vi ki 0] 111
 go_enter Tryz.func140, Tryz.ntmps140
 go_wp2_with fail
 refine (R.out _ (hL.out _ K0.out.1)).mono ?_
 rintro e W1 ⟨rfl, hb⟩
 have K1 := bsb K0 hb
 clear hb K0
 obtain ⟨c1_0_0, c1_0_1⟩ := (bo1 K1).c2
 obtain ⟨z1_0_0, z1_0_1⟩ := (bo1 K1).f2
 obtain ⟨c1_1_0, c1_1_1⟩ := (bo2 K1).c2
 have XF : Hid (Bx (W1.setCells (w.heap.size + 1) 0 [vi ki i, vi ki d]) (w.heap.size + 1) [vi ki i, vi ki d]) := (K1.out.at (w.heap.size + 1) [vi ki 0, vi ki 0] (by simp)).setAll _ rfl
 have BF : Hid (Below w.heap.size w (W1.setCells (w.heap.size + 1) 0 [vi ki i, vi ki d])) := below_setCells (by omega) _ _ _ K1.out.1
 have y0 := XF.out.c 0 rfl
 have y1 := XF.out.c 1 rfl
 simp only [World.setCells, Nat.zero_add] at y0 y1
 clear XF
 go_wp2
 exact bodyPost_ret (v := .tuple #[.agg #[vi ki i, vi ki d], vi ki 0]) (by simp [results, Tryz.results140, go_sem, y0, y1]) rfl ⟨rfl, BF.out⟩
theorem mvd_yes (d n v e V E : Int)
  (R : Hid (∀ w : World, Cvl.Lens w → Calls Tryz.prog 143 #[.agg #[vi ki 0, vi ki d]] w fun r' w' => r' = zr (.bool true) ∧ Below w.heap.size w w'))
  (F : Hid (∀ w : World, Calls Tryz.prog 142 #[vi ki n, vi ki d] w fun r' w' => r' = zr (.tuple #[vi ki v, vi ki e]) ∧ w' = w))
  (O : Hid (∀ w : World, Cvl.Lens w → Calls Tryz.prog 186 #[vi ki v, vi ki e] w fun r' w' => r' = zr (.tuple #[.agg #[vi ki 0, vi ki V], vi ki E]) ∧ Below w.heap.size w w'))
  (w : World) (hL : Hid (∀ W : World, Below w.heap.size w W → Cvl.Lens W)) :
  Calls Tryz.prog 140 #[.agg #[vi ki 0, vi ki d], .func (.func 142) #[vi ki n] #[]] w fun r' w' => r' = zr (.tuple #[.agg #[vi ki 0, vi ki V], vi ki E]) ∧ Below w.heap.size w w' := by
 have K0 := bsn2 w [vi ki 0, vi ki d] 111 [vi ki 0, vi ki 0] 111
 go_enter Tryz.func140, Tryz.ntmps140
 go_wp2_with fail
 refine (R.out _ (hL.out _ K0.out.1)).mono ?_
 rintro e W1 ⟨rfl, hb⟩
 have K1 := bsb K0 hb
 clear hb K0
 obtain ⟨c1_0_0, c1_0_1⟩ := (bo1 K1).c2
 obtain ⟨z1_0_0, z1_0_1⟩ := (bo1 K1).f2
 obtain ⟨c1_1_0, c1_1_1⟩ := (bo2 K1).c2
 go_wp2_with fail
 refine (F.out _).mono ?_
 rintro e W2 ⟨rfl, hw⟩
 rw [hw]
 clear hw W2
 go_wp2_with fail
 refine (O.out _ (hL.out _ K1.out.1)).mono ?_
 rintro e W3 ⟨rfl, hb⟩
 have K3 := bsb K1 hb
 clear c1_0_0 c1_0_1 z1_0_0 z1_0_1 c1_1_0 c1_1_1
 clear hb K1
 obtain ⟨c3_0_0, c3_0_1⟩ := (bo1 K3).c2
 obtain ⟨z3_0_0, z3_0_1⟩ := (bo1 K3).f2
 obtain ⟨c3_1_0, c3_1_1⟩ := (bo2 K3).c2
 have XF : Hid (Bx (W3.setCells (w.heap.size + 1) 0 [vi ki 0, vi ki V]) (w.heap.size + 1) [vi ki 0, vi ki V]) := (K3.out.at (w.heap.size + 1) [vi ki 0, vi ki 0] (by simp)).setAll _ rfl
 have BF : Hid (Below w.heap.size w (W3.setCells (w.heap.size + 1) 0 [vi ki 0, vi ki V])) := below_setCells (by omega) _ _ _ K3.out.1
 have y0 := XF.out.c 0 rfl
 have y1 := XF.out.c 1 rfl
 simp only [World.setCells, Nat.zero_add] at y0 y1
 clear XF
 go_wp2
 exact bodyPost_ret (v := .tuple #[.agg #[vi ki 0, vi ki V], vi ki E]) (by simp [results, Tryz.results140, go_sem, y0, y1]) rfl ⟨rfl, BF.out⟩
theorem dadd_run (i d n a b E : Int)
  (M : Hid (∀ w : World, Cvl.Lens w → Calls Tryz.prog 140 #[.agg #[vi ki i, vi ki d], .func (.func 142) #[vi ki n] #[]] w fun r' w' => r' = zr (.tuple #[.agg #[vi ki a, vi ki b], vi ki E]) ∧ Below w.heap.size w w'))
  (w : World) (hL : Hid (∀ W : World, Below w.heap.size w W → Cvl.Lens W)) :
  Calls Tryz.prog 99 #[.agg #[vi ki i, vi ki d], vi ki n] w fun r' w' => r' = zr (.tuple #[.agg #[vi ki a, vi ki b], vi ki E]) ∧ Below w.heap.size w w' := by
 have K0 := bsn2 w [vi ki i, vi ki d] 111 [vi ki 0, vi ki 0] 111
 go_enter Tryz.func99, Tryz.ntmps99
 go_wp2_with fail
 refine (M.out _ (hL.out _ K0.out.1)).mono ?_
 rintro e W1 ⟨rfl, hb⟩
 have K1 := bsb K0 hb
 clear hb K0
 obtain ⟨c1_0_0, c1_0_1⟩ := (bo1 K1).c2
 obtain ⟨z1_0_0, z1_0_1⟩ := (bo1 K1).f2
 obtain ⟨c1_1_0, c1_1_1⟩ := (bo2 K1).c2
 have XF : Hid (Bx (W1.setCells (w.heap.size + 1) 0 [vi ki a, vi ki b]) (w.heap.size + 1) [vi ki a, vi ki b]) := (K1.out.at (w.heap.size + 1) [vi ki 0, vi ki 0] (by simp)).setAll _ rfl
 have BF : Hid (Below w.heap.size w (W1.setCells (w.heap.size + 1) 0 [vi ki a, vi ki b])) := below_setCells (by omega) _ _ _ K1.out.1
 have y0 := XF.out.c 0 rfl
 have y1 := XF.out.c 1 rfl
 simp only [World.setCells, Nat.zero_add] at y0 y1
 clear XF
 go_wp2
 exact bodyPost_ret (v := .tuple #[.agg #[vi ki a, vi ki b], vi ki E]) (by simp [results, Tryz.results99, go_sem, y0, y1]) rfl ⟨rfl, BF.out⟩
end Go.Proofs.YtklehbmghjcmaaaGreatDoor.Dy
namespace Go.Proofs.YtklehbmghjcmaaaGreatDoor.Dy
open Go.RowKit
end Go.Proofs.YtklehbmghjcmaaaGreatDoor.Dy
namespace Go.Proofs.YtklehbmghjcmaaaGreatDoor.Dy
open Go.RowKit
theorem sof_no (i u : Int)
  (R : Hid (∀ w : World, Cvl.Lens w → Calls Tryz.prog 32 #[.agg #[vi ki i, vi ki u]] w fun r' w' => r' = zr (.bool false) ∧ Below w.heap.size w w'))
  (w : World) (hL : Hid (∀ W : World, Below w.heap.size w W → Cvl.Lens W)) :
  Calls Tryz.prog 97 #[.agg #[vi ki i, vi ki u]] w fun r' w' => r' = zr (.tuple #[.agg #[vi ki 0, vi ki 0], vi ki 0, vi ki 1]) ∧ Below w.heap.size w w' := by
 have K0 := bsn2 w [vi ki i, vi ki u] 36 [vi ki 0, vi ki 0] 111
 go_enter Tryz.func97, Tryz.ntmps97
 go_wp2_with fail
 refine (R.out _ (hL.out _ K0.out.1)).mono ?_
 rintro e W1 ⟨rfl, hb⟩
 have K1 := bsb K0 hb
 clear hb K0
 obtain ⟨c1_0_0, c1_0_1⟩ := (bo1 K1).c2
 obtain ⟨z1_0_0, z1_0_1⟩ := (bo1 K1).f2
 obtain ⟨c1_1_0, c1_1_1⟩ := (bo2 K1).c2
 have XF : Hid (Bx (W1.setCells (w.heap.size + 1) 0 [vi ki 0, vi ki 0]) (w.heap.size + 1) [vi ki 0, vi ki 0]) := (K1.out.at (w.heap.size + 1) [vi ki 0, vi ki 0] (by simp)).setAll _ rfl
 have BF : Hid (Below w.heap.size w (W1.setCells (w.heap.size + 1) 0 [vi ki 0, vi ki 0])) := below_setCells (by omega) _ _ _ K1.out.1
 have y0 := XF.out.c 0 rfl
 have y1 := XF.out.c 1 rfl
 simp only [World.setCells, Nat.zero_add] at y0 y1
 clear XF
 go_wp2
 exact bodyPost_ret (v := .tuple #[.agg #[vi ki 0, vi ki 0], vi ki 0, vi ki 1]) (by simp [results, Tryz.results97, go_sem, y0, y1]) rfl ⟨rfl, BF.out⟩
theorem sof_inf (i u : Int) (hi : i ≠ 0)
  (R : Hid (∀ w : World, Cvl.Lens w → Calls Tryz.prog 32 #[.agg #[vi ki i, vi ki u]] w fun r' w' => r' = zr (.bool true) ∧ Below w.heap.size w w'))
  (w : World) (hL : Hid (∀ W : World, Below w.heap.size w W → Cvl.Lens W)) :
  Calls Tryz.prog 97 #[.agg #[vi ki i, vi ki u]] w fun r' w' => r' = zr (.tuple #[.agg #[vi ki i, vi ki 0], vi ki 0, vi ki 0]) ∧ Below w.heap.size w w' := by
 have i1 : (i != 0) = true := bne_iff_ne.2 hi
 have K0 := bsn2 w [vi ki i, vi ki u] 36 [vi ki 0, vi ki 0] 111
 go_enter Tryz.func97, Tryz.ntmps97
 go_wp2_with fail
 refine (R.out _ (hL.out _ K0.out.1)).mono ?_
 rintro e W1 ⟨rfl, hb⟩
 have K1 := bsb K0 hb
 clear hb K0
 obtain ⟨c1_0_0, c1_0_1⟩ := (bo1 K1).c2
 obtain ⟨z1_0_0, z1_0_1⟩ := (bo1 K1).f2
 obtain ⟨c1_1_0, c1_1_1⟩ := (bo2 K1).c2
 have XF : Hid (Bx (W1.setCells (w.heap.size + 1) 0 [vi ki i, vi ki 0]) (w.heap.size + 1) [vi ki i, vi ki 0]) := (K1.out.at (w.heap.size + 1) [vi ki 0, vi ki 0] (by simp)).setAll _ rfl
 have BF : Hid (Below w.heap.size w (W1.setCells (w.heap.size + 1) 0 [vi ki i, vi ki 0])) := below_setCells (by omega) _ _ _ K1.out.1
 have y0 := XF.out.c 0 rfl
 have y1 := XF.out.c 1 rfl
 simp only [World.setCells, Nat.zero_add] at y0 y1
 clear XF
 go_wp2
 exact bodyPost_ret (v := .tuple #[.agg #[vi ki i, vi ki 0], vi ki 0, vi ki 0]) (by simp [results, Tryz.results97, go_sem, y0, y1]) rfl ⟨rfl, BF.out⟩
theorem sof_yes (u q r : Int)
  (R : Hid (∀ w : World, Cvl.Lens w → Calls Tryz.prog 32 #[.agg #[vi ki 0, vi ki u]] w fun r' w' => r' = zr (.bool true) ∧ Below w.heap.size w w'))
  (S : Hid (∀ w : World, Calls Tryz.prog 76 #[vi ki u] w fun r' w' => r' = zr (.tuple #[vi ki q, vi ki r]) ∧ w' = w))
  (w : World) (hL : Hid (∀ W : World, Below w.heap.size w W → Cvl.Lens W)) :
  Calls Tryz.prog 97 #[.agg #[vi ki 0, vi ki u]] w fun r' w' => r' = zr (.tuple #[.agg #[vi ki 0, vi ki q], vi ki r, vi ki 0]) ∧ Below w.heap.size w w' := by
 have K0 := bsn2 w [vi ki 0, vi ki u] 36 [vi ki 0, vi ki 0] 111
 go_enter Tryz.func97, Tryz.ntmps97
 go_wp2_with fail
 refine (R.out _ (hL.out _ K0.out.1)).mono ?_
 rintro e W1 ⟨rfl, hb⟩
 have K1 := bsb K0 hb
 clear hb K0
 obtain ⟨c1_0_0, c1_0_1⟩ := (bo1 K1).c2
 obtain ⟨z1_0_0, z1_0_1⟩ := (bo1 K1).f2
 obtain ⟨c1_1_0, c1_1_1⟩ := (bo2 K1).c2
 go_wp2_with fail
 refine (S.out _).mono ?_
 rintro e W2 ⟨rfl, hw⟩
 rw [hw]
 clear hw W2
 have XF : Hid (Bx (W1.setCells (w.heap.size + 1) 0 [vi ki 0, vi ki q]) (w.heap.size + 1) [vi ki 0, vi ki q]) := (K1.out.at (w.heap.size + 1) [vi ki 0, vi ki 0] (by simp)).setAll _ rfl
 have BF : Hid (Below w.heap.size w (W1.setCells (w.heap.size + 1) 0 [vi ki 0, vi ki q])) := below_setCells (by omega) _ _ _ K1.out.1
 have y0 := XF.out.c 0 rfl
 have y1 := XF.out.c 1 rfl
 simp only [World.setCells, Nat.zero_add] at y0 y1
 clear XF
 go_wp2
 exact bodyPost_ret (v := .tuple #[.agg #[vi ki 0, vi ki q], vi ki r, vi ki 0]) (by simp [results, Tryz.results97, go_sem, y0, y1]) rfl ⟨rfl, BF.out⟩
theorem st_no (i d u : Int)
  (R : Hid (∀ w : World, Cvl.Lens w → Calls Tryz.prog 143 #[.agg #[vi ki i, vi ki d]] w fun r' w' => r' = zr (.bool false) ∧ Below w.heap.size w w'))
  (w : World) (hL : Hid (∀ W : World, Below w.heap.size w W → Cvl.Lens W)) :
  Calls Tryz.prog 100 #[.agg #[vi ki i, vi ki d], vi ki u] w fun r' w' => r' = zr (.tuple #[.agg #[vi ki 0, vi ki 0], vi ki 1]) ∧ Below w.heap.size w w' := by
 have K0 := bsn2 w [vi ki i, vi ki d] 111 [vi ki 0, vi ki 0] 36
 go_enter Tryz.func100, Tryz.ntmps100
 go_wp2_with fail
 refine (R.out _ (hL.out _ K0.out.1)).mono ?_
 rintro e W1 ⟨rfl, hb⟩
 have K1 := bsb K0 hb
 clear hb K0
 obtain ⟨c1_0_0, c1_0_1⟩ := (bo1 K1).c2
 obtain ⟨z1_0_0, z1_0_1⟩ := (bo1 K1).f2
 obtain ⟨c1_1_0, c1_1_1⟩ := (bo2 K1).c2
 have XF : Hid (Bx (W1.setCells (w.heap.size + 1) 0 [vi ki 0, vi ki 0]) (w.heap.size + 1) [vi ki 0, vi ki 0]) := (K1.out.at (w.heap.size + 1) [vi ki 0, vi ki 0] (by simp)).setAll _ rfl
 have BF : Hid (Below w.heap.size w (W1.setCells (w.heap.size + 1) 0 [vi ki 0, vi ki 0])) := below_setCells (by omega) _ _ _ K1.out.1
 have y0 := XF.out.c 0 rfl
 have y1 := XF.out.c 1 rfl
 simp only [World.setCells, Nat.zero_add] at y0 y1
 clear XF
 go_wp2
 exact bodyPost_ret (v := .tuple #[.agg #[vi ki 0, vi ki 0], vi ki 1]) (by simp [results, Tryz.results100, go_sem, y0, y1]) rfl ⟨rfl, BF.out⟩
theorem st_neg (i d u : Int) (hu : u < 0)
  (R : Hid (∀ w : World, Cvl.Lens w → Calls Tryz.prog 143 #[.agg #[vi ki i, vi ki d]] w fun r' w' => r' = zr (.bool true) ∧ Below w.heap.size w w'))
  (w : World) (hL : Hid (∀ W : World, Below w.heap.size w W → Cvl.Lens W)) :
  Calls Tryz.prog 100 #[.agg #[vi ki i, vi ki d], vi ki u] w fun r' w' => r' = zr (.tuple #[.agg #[vi ki 0, vi ki 0], vi ki 1]) ∧ Below w.heap.size w w' := by
 have K0 := bsn2 w [vi ki i, vi ki d] 111 [vi ki 0, vi ki 0] 36
 go_enter Tryz.func100, Tryz.ntmps100
 go_wp2_with fail
 refine (R.out _ (hL.out _ K0.out.1)).mono ?_
 rintro e W1 ⟨rfl, hb⟩
 have K1 := bsb K0 hb
 clear hb K0
 obtain ⟨c1_0_0, c1_0_1⟩ := (bo1 K1).c2
 obtain ⟨z1_0_0, z1_0_1⟩ := (bo1 K1).f2
 obtain ⟨c1_1_0, c1_1_1⟩ := (bo2 K1).c2
 have XF : Hid (Bx (W1.setCells (w.heap.size + 1) 0 [vi ki 0, vi ki 0]) (w.heap.size + 1) [vi ki 0, vi ki 0]) := (K1.out.at (w.heap.size + 1) [vi ki 0, vi ki 0] (by simp)).setAll _ rfl
 have BF : Hid (Below w.heap.size w (W1.setCells (w.heap.size + 1) 0 [vi ki 0, vi ki 0])) := below_setCells (by omega) _ _ _ K1.out.1
 have y0 := XF.out.c 0 rfl
 have y1 := XF.out.c 1 rfl
 simp only [World.setCells, Nat.zero_add] at y0 y1
 clear XF
 go_wp2
 exact bodyPost_ret (v := .tuple #[.agg #[vi ki 0, vi ki 0], vi ki 1]) (by simp [results, Tryz.results100, go_sem, y0, y1]) rfl ⟨rfl, BF.out⟩
theorem st_big (i d u : Int) (hu : 86400000000 < u)
  (R : Hid (∀ w : World, Cvl.Lens w → Calls Tryz.prog 143 #[.agg #[vi ki i, vi ki d]] w fun r' w' => r' = zr (.bool true) ∧ Below w.heap.size w w'))
  (w : World) (hL : Hid (∀ W : World, Below w.heap.size w W → Cvl.Lens W)) :
  Calls Tryz.prog 100 #[.agg #[vi ki i, vi ki d], vi ki u] w fun r' w' => r' = zr (.tuple #[.agg #[vi ki 0, vi ki 0], vi ki 1]) ∧ Below w.heap.size w w' := by
 have h0 : ¬ u < 0 := by omega
 have K0 := bsn2 w [vi ki i, vi ki d] 111 [vi ki 0, vi ki 0] 36
 go_enter Tryz.func100, Tryz.ntmps100
 go_wp2_with fail
 refine (R.out _ (hL.out _ K0.out.1)).mono ?_
 rintro e W1 ⟨rfl, hb⟩
 have K1 := bsb K0 hb
 clear hb K0
 obtain ⟨c1_0_0, c1_0_1⟩ := (bo1 K1).c2
 obtain ⟨z1_0_0, z1_0_1⟩ := (bo1 K1).f2
 obtain ⟨c1_1_0, c1_1_1⟩ := (bo2 K1).c2
 have XF : Hid (Bx (W1.setCells (w.heap.size + 1) 0 [vi ki 0, vi ki 0]) (w.heap.size + 1) [vi ki 0, vi ki 0]) := (K1.out.at (w.heap.size + 1) [vi ki 0, vi ki 0] (by simp)).setAll _ rfl
 have BF : Hid (Below w.heap.size w (W1.setCells (w.heap.size + 1) 0 [vi ki 0, vi ki 0])) := below_setCells (by omega) _ _ _ K1.out.1
 have y0 := XF.out.c 0 rfl
 have y1 := XF.out.c 1 rfl
 simp only [World.setCells, Nat.zero_add] at y0 y1
 clear XF
 go_wp2
 exact bodyPost_ret (v := .tuple #[.agg #[vi ki 0, vi ki 0], vi ki 1]) (by simp [results, Tryz.results100, go_sem, y0, y1]) rfl ⟨rfl, BF.out⟩
theorem st_inf (i d u : Int) (hi : i ≠ 0) (h0 : ¬ u < 0) (h1 : ¬ 86400000000 < u)
  (R : Hid (∀ w : World, Cvl.Lens w → Calls Tryz.prog 143 #[.agg #[vi ki i, vi ki d]] w fun r' w' => r' = zr (.bool true) ∧ Below w.heap.size w w'))
  (w : World) (hL : Hid (∀ W : World, Below w.heap.size w W → Cvl.Lens W)) :
  Calls Tryz.prog 100 #[.agg #[vi ki i, vi ki d], vi ki u] w fun r' w' => r' = zr (.tuple #[.agg #[vi ki i, vi ki 0], vi ki 0]) ∧ Below w.heap.size w w' := by
 have i1 : (i != 0) = true := bne_iff_ne.2 hi
 have K0 := bsn2 w [vi ki i, vi ki d] 111 [vi ki 0, vi ki 0] 36
 go_enter Tryz.func100, Tryz.ntmps100
 go_wp2_with fail
 refine (R.out _ (hL.out _ K0.out.1)).mono ?_
 rintro e W1 ⟨rfl, hb⟩
 have K1 := bsb K0 hb
 clear hb K0
 obtain ⟨c1_0_0, c1_0_1⟩ := (bo1 K1).c2
 obtain ⟨z1_0_0, z1_0_1⟩ := (bo1 K1).f2
 obtain ⟨c1_1_0, c1_1_1⟩ := (bo2 K1).c2
 have XF : Hid (Bx (W1.setCells (w.heap.size + 1) 0 [vi ki i, vi ki 0]) (w.heap.size + 1) [vi ki i, vi ki 0]) := (K1.out.at (w.heap.size + 1) [vi ki 0, vi ki 0] (by simp)).setAll _ rfl
 have BF : Hid (Below w.heap.size w (W1.setCells (w.heap.size + 1) 0 [vi ki i, vi ki 0])) := below_setCells (by omega) _ _ _ K1.out.1
 have y0 := XF.out.c 0 rfl
 have y1 := XF.out.c 1 rfl
 simp only [World.setCells, Nat.zero_add] at y0 y1
 clear XF
 go_wp2
 exact bodyPost_ret (v := .tuple #[.agg #[vi ki i, vi ki 0], vi ki 0]) (by simp [results, Tryz.results100, go_sem, y0, y1]) rfl ⟨rfl, BF.out⟩
theorem st_true (d u : Int) (d1 : -2451507 ≤ d) (d2 : d ≤ 106751982) (h0 : ¬ u < 0) (h1 : ¬ 86400000000 < u)
  (R : Hid (∀ w : World, Cvl.Lens w → Calls Tryz.prog 143 #[.agg #[vi ki 0, vi ki d]] w fun r' w' => r' = zr (.bool true) ∧ Below w.heap.size w w'))
  (Q : Hid (∀ w : World, Cvl.Lens w → Calls Tryz.prog 32 #[.agg #[vi ki 0, vi ki (d * 86400000000 + u)]] w fun r' w' => r' = zr (.bool true) ∧ Below w.heap.size w w'))
  (w : World) (hL : Hid (∀ W : World, Below w.heap.size w W → Cvl.Lens W)) :
  Calls Tryz.prog 100 #[.agg #[vi ki 0, vi ki d], vi ki u] w fun r' w' => r' = zr (.tuple #[.agg #[vi ki 0, vi ki (d * 86400000000 + u)], vi ki 0]) ∧ Below w.heap.size w w' := by
 have K0 := bsn2 w [vi ki 0, vi ki d] 111 [vi ki 0, vi ki 0] 36
 go_enter Tryz.func100, Tryz.ntmps100
 go_wp2_with fail
 refine (R.out _ (hL.out _ K0.out.1)).mono ?_
 rintro e W1 ⟨rfl, hb⟩
 have K1 := bsb K0 hb
 clear hb K0
 obtain ⟨c1_0_0, c1_0_1⟩ := (bo1 K1).c2
 obtain ⟨z1_0_0, z1_0_1⟩ := (bo1 K1).f2
 obtain ⟨c1_1_0, c1_1_1⟩ := (bo2 K1).c2
 have K2 : Hid (BS w [(W1.heap.size, [vi ki 0, vi ki (d * 86400000000 + u)]), (w.heap.size + 1, [vi ki 0, vi ki 0]), (w.heap.size, [vi ki 0, vi ki d])] (W1.alloc (.cells #[vi ki 0, vi ki (d * 86400000000 + u)] 36))) := K1.out.new [vi ki 0, vi ki (d * 86400000000 + u)] 36 rfl
 go_wp2_with fail
 refine (Q.out _ (hL.out _ K2.out.1)).mono ?_
 rintro e W3 ⟨rfl, hb⟩
 have K3 := bsb K2 hb
 clear c1_0_0 c1_0_1 z1_0_0 z1_0_1 c1_1_0 c1_1_1
 clear hb K2
 obtain ⟨c3_0_0, c3_0_1⟩ := (bo1 K3).c2
 obtain ⟨c3_1_0, c3_1_1⟩ := (bo2 K3).c2
 obtain ⟨z3_1_0, z3_1_1⟩ := (bo2 K3).f2
 obtain ⟨c3_2_0, c3_2_1⟩ := (bo3 K3).c2
 have XF : Hid (Bx (W3.setCells (w.heap.size + 1) 0 [vi ki 0, vi ki (d * 86400000000 + u)]) (w.heap.size + 1) [vi ki 0, vi ki (d * 86400000000 + u)]) := (K3.out.at (w.heap.size + 1) [vi ki 0, vi ki 0] (by simp)).setAll _ rfl
 have BF : Hid (Below w.heap.size w (W3.setCells (w.heap.size + 1) 0 [vi ki 0, vi ki (d * 86400000000 + u)])) := below_setCells (by omega) _ _ _ K3.out.1
 have y0 := XF.out.c 0 rfl
 have y1 := XF.out.c 1 rfl
 simp only [World.setCells, Nat.zero_add] at y0 y1
 clear XF
 go_wp2
 exact bodyPost_ret (v := .tuple #[.agg #[vi ki 0, vi ki (d * 86400000000 + u)], vi ki 0]) (by simp [results, Tryz.results100, go_sem, y0, y1]) rfl ⟨rfl, BF.out⟩
theorem st_false (d u : Int) (d1 : -2451507 ≤ d) (d2 : d ≤ 106751982) (h0 : ¬ u < 0) (h1 : ¬ 86400000000 < u)
  (R : Hid (∀ w : World, Cvl.Lens w → Calls Tryz.prog 143 #[.agg #[vi ki 0, vi ki d]] w fun r' w' => r' = zr (.bool true) ∧ Below w.heap.size w w'))
  (Q : Hid (∀ w : World, Cvl.Lens w → Calls Tryz.prog 32 #[.agg #[vi ki 0, vi ki (d * 86400000000 + u)]] w fun r' w' => r' = zr (.bool false) ∧ Below w.heap.size w w'))
  (w : World) (hL : Hid (∀ W : World, Below w.heap.size w W → Cvl.Lens W)) :
  Calls Tryz.prog 100 #[.agg #[vi ki 0, vi ki d], vi ki u] w fun r' w' => r' = zr (.tuple #[.agg #[vi ki 0, vi ki 0], vi ki 10]) ∧ Below w.heap.size w w' := by
 have K0 := bsn2 w [vi ki 0, vi ki d] 111 [vi ki 0, vi ki 0] 36
 go_enter Tryz.func100, Tryz.ntmps100
 go_wp2_with fail
 refine (R.out _ (hL.out _ K0.out.1)).mono ?_
 rintro e W1 ⟨rfl, hb⟩
 have K1 := bsb K0 hb
 clear hb K0
 obtain ⟨c1_0_0, c1_0_1⟩ := (bo1 K1).c2
 obtain ⟨z1_0_0, z1_0_1⟩ := (bo1 K1).f2
 obtain ⟨c1_1_0, c1_1_1⟩ := (bo2 K1).c2
 have K2 : Hid (BS w [(W1.heap.size, [vi ki 0, vi ki (d * 86400000000 + u)]), (w.heap.size + 1, [vi ki 0, vi ki 0]), (w.heap.size, [vi ki 0, vi ki d])] (W1.alloc (.cells #[vi ki 0, vi ki (d * 86400000000 + u)] 36))) := K1.out.new [vi ki 0, vi ki (d * 86400000000 + u)] 36 rfl
 go_wp2_with fail
 refine (Q.out _ (hL.out _ K2.out.1)).mono ?_
 rintro e W3 ⟨rfl, hb⟩
 have K3 := bsb K2 hb
 clear c1_0_0 c1_0_1 z1_0_0 z1_0_1 c1_1_0 c1_1_1
 clear hb K2
 obtain ⟨c3_0_0, c3_0_1⟩ := (bo1 K3).c2
 obtain ⟨c3_1_0, c3_1_1⟩ := (bo2 K3).c2
 obtain ⟨z3_1_0, z3_1_1⟩ := (bo2 K3).f2
 obtain ⟨c3_2_0, c3_2_1⟩ := (bo3 K3).c2
 have XF : Hid (Bx (W3.setCells (w.heap.size + 1) 0 [vi ki 0, vi ki 0]) (w.heap.size + 1) [vi ki 0, vi ki 0]) := (K3.out.at (w.heap.size + 1) [vi ki 0, vi ki 0] (by simp)).setAll _ rfl
 have BF : Hid (Below w.heap.size w (W3.setCells (w.heap.size + 1) 0 [vi ki 0, vi ki 0])) := below_setCells (by omega) _ _ _ K3.out.1
 have y0 := XF.out.c 0 rfl
 have y1 := XF.out.c 1 rfl
 simp only [World.setCells, Nat.zero_add] at y0 y1
 clear XF
 go_wp2
 exact bodyPost_ret (v := .tuple #[.agg #[vi ki 0, vi ki 0], vi ki 10]) (by simp [results, Tryz.results100, go_sem, y0, y1]) rfl ⟨rfl, BF.out⟩
theorem st0_run (i d a b E : Int)
  (M : Hid (∀ w : World, Cvl.Lens w → Calls Tryz.prog 100 #[.agg #[vi ki i, vi ki d], vi ki 0] w fun r' w' => r' = zr (.tuple #[.agg #[vi ki a, vi ki b], vi ki E]) ∧ Below w.heap.size w w'))
  (w : World) (hL : Hid (∀ W : World, Below w.heap.size w W → Cvl.Lens W)) :
  Calls Tryz.prog 110 #[.agg #[vi ki i, vi ki d]] w fun r' w' => r' = zr (.tuple #[.agg #[vi ki a, vi ki b], vi ki E]) ∧ Below w.heap.size w w' := by
 have K0 := bsn2 w [vi ki i, vi ki d] 111 [vi ki 0, vi ki 0] 36
 go_enter Tryz.func110, Tryz.ntmps110
 go_wp2_with fail
 refine (M.out _ (hL.out _ K0.out.1)).mono ?_
 rintro e W1 ⟨rfl, hb⟩
 have K1 := bsb K0 hb
 clear hb K0
 obtain ⟨c1_0_0, c1_0_1⟩ := (bo1 K1).c2
 obtain ⟨z1_0_0, z1_0_1⟩ := (bo1 K1).f2
 obtain ⟨c1_1_0, c1_1_1⟩ := (bo2 K1).c2
 have XF : Hid (Bx (W1.setCells (w.heap.size + 1) 0 [vi ki a, vi ki b]) (w.heap.size + 1) [vi ki a, vi ki b]) := (K1.out.at (w.heap.size + 1) [vi ki 0, vi ki 0] (by simp)).setAll _ rfl
 have BF : Hid (Below w.heap.size w (W1.setCells (w.heap.size + 1) 0 [vi ki a, vi ki b])) := below_setCells (by omega) _ _ _ K1.out.1
 have y0 := XF.out.c 0 rfl
 have y1 := XF.out.c 1 rfl
 simp only [World.setCells, Nat.zero_add] at y0 y1
 clear XF
 go_wp2
 exact bodyPost_ret (v := .tuple #[.agg #[vi ki a, vi ki b], vi ki E]) (by simp [results, Tryz.results110, go_sem, y0, y1]) rfl ⟨rfl, BF.out⟩
theorem rt_no (i d u : Int)
  (R : Hid (∀ w : World, Calls Tryz.prog 113 #[.agg #[vi ki i, vi ki d]] w fun r' w' => r' = zr (.bool false) ∧ Below w.heap.size w w'))
  (w : World) :
  Calls Tryz.prog 90 #[.agg #[vi ki i, vi ki d], vi ki u] w fun r' w' => r' = zr (.tuple #[.agg #[vi ki 0, vi ki 0], vi ki 1]) ∧ Below w.heap.size w w' := by
 have K0 := bsn2 w [vi ki i, vi ki d] 111 [vi ki 0, vi ki 0] 36
 go_enter Tryz.func90, Tryz.ntmps90
 go_wp2_with fail
 refine (R.out _).mono ?_
 rintro e W1 ⟨rfl, hb⟩
 have K1 := bsb K0 hb
 clear hb K0
 obtain ⟨c1_0_0, c1_0_1⟩ := (bo1 K1).c2
 obtain ⟨z1_0_0, z1_0_1⟩ := (bo1 K1).f2
 obtain ⟨c1_1_0, c1_1_1⟩ := (bo2 K1).c2
 have XF : Hid (Bx (W1.setCells (w.heap.size + 1) 0 [vi ki 0, vi ki 0]) (w.heap.size + 1) [vi ki 0, vi ki 0]) := (K1.out.at (w.heap.size + 1) [vi ki 0, vi ki 0] (by simp)).setAll _ rfl
 have BF : Hid (Below w.heap.size w (W1.setCells (w.heap.size + 1) 0 [vi ki 0, vi ki 0])) := below_setCells (by omega) _ _ _ K1.out.1
 have y0 := XF.out.c 0 rfl
 have y1 := XF.out.c 1 rfl
 simp only [World.setCells, Nat.zero_add] at y0 y1
 clear XF
 go_wp2
 exact bodyPost_ret (v := .tuple #[.agg #[vi ki 0, vi ki 0], vi ki 1]) (by simp [results, Tryz.results90, go_sem, y0, y1]) rfl ⟨rfl, BF.out⟩
theorem rt_neg (i d u : Int) (hu : u < 0)
  (R : Hid (∀ w : World, Calls Tryz.prog 113 #[.agg #[vi ki i, vi ki d]] w fun r' w' => r' = zr (.bool true) ∧ Below w.heap.size w w'))
  (w : World) :
  Calls Tryz.prog 90 #[.agg #[vi ki i, vi ki d], vi ki u] w fun r' w' => r' = zr (.tuple #[.agg #[vi ki 0, vi ki 0], vi ki 1]) ∧ Below w.heap.size w w' := by
 have K0 := bsn2 w [vi ki i, vi ki d] 111 [vi ki 0, vi ki 0] 36
 go_enter Tryz.func90, Tryz.ntmps90
 go_wp2_with fail
 refine (R.out _).mono ?_
 rintro e W1 ⟨rfl, hb⟩
 have K1 := bsb K0 hb
 clear hb K0
 obtain ⟨c1_0_0, c1_0_1⟩ := (bo1 K1).c2
 obtain ⟨z1_0_0, z1_0_1⟩ := (bo1 K1).f2
 obtain ⟨c1_1_0, c1_1_1⟩ := (bo2 K1).c2
 have XF : Hid (Bx (W1.setCells (w.heap.size + 1) 0 [vi ki 0, vi ki 0]) (w.heap.size + 1) [vi ki 0, vi ki 0]) := (K1.out.at (w.heap.size + 1) [vi ki 0, vi ki 0] (by simp)).setAll _ rfl
 have BF : Hid (Below w.heap.size w (W1.setCells (w.heap.size + 1) 0 [vi ki 0, vi ki 0])) := below_setCells (by omega) _ _ _ K1.out.1
 have y0 := XF.out.c 0 rfl
 have y1 := XF.out.c 1 rfl
 simp only [World.setCells, Nat.zero_add] at y0 y1
 clear XF
 go_wp2
 exact bodyPost_ret (v := .tuple #[.agg #[vi ki 0, vi ki 0], vi ki 1]) (by simp [results, Tryz.results90, go_sem, y0, y1]) rfl ⟨rfl, BF.out⟩
theorem rt_big (i d u : Int) (hu : 86400000000 < u)
  (R : Hid (∀ w : World, Calls Tryz.prog 113 #[.agg #[vi ki i, vi ki d]] w fun r' w' => r' = zr (.bool true) ∧ Below w.heap.size w w'))
  (w : World) :
  Calls Tryz.prog 90 #[.agg #[vi ki i, vi ki d], vi ki u] w fun r' w' => r' = zr (.tuple #[.agg #[vi ki 0, vi ki 0], vi ki 1]) ∧ Below w.heap.size w w' := by
 have h0 : ¬ u < 0 := by omega
 have K0 := bsn2 w [vi ki i, vi ki d] 111 [vi ki 0, vi ki 0] 36
 go_enter Tryz.func90, Tryz.ntmps90
 go_wp2_with fail
 refine (R.out _).mono ?_
 rintro e W1 ⟨rfl, hb⟩
 have K1 := bsb K0 hb
 clear hb K0
 obtain ⟨c1_0_0, c1_0_1⟩ := (bo1 K1).c2
 obtain ⟨z1_0_0, z1_0_1⟩ := (bo1 K1).f2
 obtain ⟨c1_1_0, c1_1_1⟩ := (bo2 K1).c2
 have XF : Hid (Bx (W1.setCells (w.heap.size + 1) 0 [vi ki 0, vi ki 0]) (w.heap.size + 1) [vi ki 0, vi ki 0]) := (K1.out.at (w.heap.size + 1) [vi ki 0, vi ki 0] (by simp)).setAll _ rfl
 have BF : Hid (Below w.heap.size w (W1.setCells (w.heap.size + 1) 0 [vi ki 0, vi ki 0])) := below_setCells (by omega) _ _ _ K1.out.1
 have y0 := XF.out.c 0 rfl
 have y1 := XF.out.c 1 rfl
 simp only [World.setCells, Nat.zero_add] at y0 y1
 clear XF
 go_wp2
 exact bodyPost_ret (v := .tuple #[.agg #[vi ki 0, vi ki 0], vi ki 1]) (by simp [results, Tryz.results90, go_sem, y0, y1]) rfl ⟨rfl, BF.out⟩
theorem rt_inf (i d u : Int) (hi : i ≠ 0) (h0 : ¬ u < 0) (h1 : ¬ 86400000000 < u)
  (R : Hid (∀ w : World, Calls Tryz.prog 113 #[.agg #[vi ki i, vi ki d]] w fun r' w' => r' = zr (.bool true) ∧ Below w.heap.size w w'))
  (w : World) :
  Calls Tryz.prog 90 #[.agg #[vi ki i, vi ki d], vi ki u] w fun r' w' => r' = zr (.tuple #[.agg #[vi ki i, vi ki 0], vi ki 0]) ∧ Below w.heap.size w w' := by
 have i1 : (i != 0) = true := bne_iff_ne.2 hi
 have K0 := bsn2 w [vi ki i, vi ki d] 111 [vi ki 0, vi ki 0] 36
 go_enter Tryz.func90, Tryz.ntmps90
 go_wp2_with fail
 refine (R.out _).mono ?_
 rintro e W1 ⟨rfl, hb⟩
 have K1 := bsb K0 hb
 clear hb K0
 obtain ⟨c1_0_0, c1_0_1⟩ := (bo1 K1).c2
 obtain ⟨z1_0_0, z1_0_1⟩ := (bo1 K1).f2
 obtain ⟨c1_1_0, c1_1_1⟩ := (bo2 K1).c2
 have XF : Hid (Bx (W1.setCells (w.heap.size + 1) 0 [vi ki i, vi ki 0]) (w.heap.size + 1) [vi ki i, vi ki 0]) := (K1.out.at (w.heap.size + 1) [vi ki 0, vi ki 0] (by simp)).setAll _ rfl
 have BF : Hid (Below w.heap.size w (W1.setCells (w.heap.size + 1) 0 [vi ki i, vi ki 0])) := below_setCells (by omega) _ _ _ K1.out.1
 have y0 := XF.out.c 0 rfl
 have y1 := XF.out.c 1 rfl
 simp only [World.setCells, Nat.zero_add] at y0 y1
 clear XF
 go_wp2
 exact bodyPost_ret (v := .tuple #[.agg #[vi ki i, vi ki 0], vi ki 0]) (by simp [results, Tryz.results90, go_sem, y0, y1]) rfl ⟨rfl, BF.out⟩
theorem rt_true (d u : Int) (d1 : -2451507 ≤ d) (d2 : d ≤ 106751982) (h0 : ¬ u < 0) (h1 : u < 86400000000)
  (R : Hid (∀ w : World, Calls Tryz.prog 113 #[.agg #[vi ki 0, vi ki d]] w fun r' w' => r' = zr (.bool true) ∧ Below w.heap.size w w'))
  (C : Hid (∀ w : World, Calls Tryz.prog 83 #[vi ki d] w fun r' w' => r' = zr (.bool true) ∧ w' = w))
  (w : World) :
  Calls Tryz.prog 90 #[.agg #[vi ki 0, vi ki d], vi ki u] w fun r' w' => r' = zr (.tuple #[.agg #[vi ki 0, vi ki (d * 86400000000 + u)], vi ki 0]) ∧ Below w.heap.size w w' := by
 have h2 : ¬ 86400000000 < u := by omega
 have h3 : (u == 86400000000) = false := by simp; omega
 have K0 := bsn2 w [vi ki 0, vi ki d] 111 [vi ki 0, vi ki 0] 36
 go_enter Tryz.func90, Tryz.ntmps90
 go_wp2_with fail
 refine (R.out _).mono ?_
 rintro e W1 ⟨rfl, hb⟩
 have K1 := bsb K0 hb
 clear hb K0
 obtain ⟨c1_0_0, c1_0_1⟩ := (bo1 K1).c2
 obtain ⟨z1_0_0, z1_0_1⟩ := (bo1 K1).f2
 obtain ⟨c1_1_0, c1_1_1⟩ := (bo2 K1).c2
 go_wp2_with fail
 refine (C.out _).mono ?_
 rintro e W2 ⟨rfl, hw⟩
 rw [hw]
 clear hw W2
 have XF : Hid (Bx (W1.setCells (w.heap.size + 1) 0 [vi ki 0, vi ki (d * 86400000000 + u)]) (w.heap.size + 1) [vi ki 0, vi ki (d * 86400000000 + u)]) := (K1.out.at (w.heap.size + 1) [vi ki 0, vi ki 0] (by simp)).setAll _ rfl
 have BF : Hid (Below w.heap.size w (W1.setCells (w.heap.size + 1) 0 [vi ki 0, vi ki (d * 86400000000 + u)])) := below_setCells (by omega) _ _ _ K1.out.1
 have y0 := XF.out.c 0 rfl
 have y1 := XF.out.c 1 rfl
 simp only [World.setCells, Nat.zero_add] at y0 y1
 clear XF
 go_wp2
 exact bodyPost_ret (v := .tuple #[.agg #[vi ki 0, vi ki (d * 86400000000 + u)], vi ki 0]) (by simp [results, Tryz.results90, go_sem, y0, y1]) rfl ⟨rfl, BF.out⟩
theorem rt_end_true (d : Int) (d1 : -2451507 ≤ d) (d2 : d ≤ 106751982)
  (R : Hid (∀ w : World, Calls Tryz.prog 113 #[.agg #[vi ki 0, vi ki d]] w fun r' w' => r' = zr (.bool true) ∧ Below w.heap.size w w'))
  (C : Hid (∀ w : World, Calls Tryz.prog 83 #[vi ki (d + 1)] w fun r' w' => r' = zr (.bool true) ∧ w' = w))
  (w : World) :
  Calls Tryz.prog 90 #[.agg #[vi ki 0, vi ki d], vi ki 86400000000] w fun r' w' => r' = zr (.tuple #[.agg #[vi ki 0, vi ki ((d + 1) * 86400000000)], vi ki 0]) ∧ Below w.heap.size w w' := by
 have K0 := bsn2 w [vi ki 0, vi ki d] 111 [vi ki 0, vi ki 0] 36
 go_enter Tryz.func90, Tryz.ntmps90
 go_wp2_with fail
 refine (R.out _).mono ?_
 rintro e W1 ⟨rfl, hb⟩
 have K1 := bsb K0 hb
 clear hb K0
 obtain ⟨c1_0_0, c1_0_1⟩ := (bo1 K1).c2
 obtain ⟨z1_0_0, z1_0_1⟩ := (bo1 K1).f2
 obtain ⟨c1_1_0, c1_1_1⟩ := (bo2 K1).c2
 go_wp2_with fail
 refine (C.out _).mono ?_
 rintro e W2 ⟨rfl, hw⟩
 rw [hw]
 clear hw W2
 have XF : Hid (Bx (W1.setCells (w.heap.size + 1) 0 [vi ki 0, vi ki ((d + 1) * 86400000000)]) (w.heap.size + 1) [vi ki 0, vi ki ((d + 1) * 86400000000)]) := (K1.out.at (w.heap.size + 1) [vi ki 0, vi ki 0] (by simp)).setAll _ rfl
 have BF : Hid (Below w.heap.size w (W1.setCells (w.heap.size + 1) 0 [vi ki 0, vi ki ((d + 1) * 86400000000)])) := below_setCells (by omega) _ _ _ K1.out.1
 have y0 := XF.out.c 0 rfl
 have y1 := XF.out.c 1 rfl
 simp only [World.setCells, Nat.zero_add] at y0 y1
 clear XF
 go_wp2
 exact bodyPost_ret (v := .tuple #[.agg #[vi ki 0, vi ki ((d + 1) * 86400000000)], vi ki 0]) (by simp [results, Tryz.results90, go_sem, y0, y1]) rfl ⟨rfl, BF.out⟩
theorem rt_end_false (d : Int) (d1 : -2451507 ≤ d) (d2 : d ≤ 106751982)
  (R : Hid (∀ w : World, Calls Tryz.prog 113 #[.agg #[vi ki 0, vi ki d]] w fun r' w' => r' = zr (.bool true) ∧ Below w.heap.size w w'))
  (C : Hid (∀ w : World, Calls Tryz.prog 83 #[vi ki (d + 1)] w fun r' w' => r' = zr (.bool false) ∧ w' = w))
  (w : World) :
  Calls Tryz.prog 90 #[.agg #[vi ki 0, vi ki d], vi ki 86400000000] w fun r' w' => r' = zr (.tuple #[.agg #[vi ki 0, vi ki 0], vi ki 10]) ∧ Below w.heap.size w w' := by
 have K0 := bsn2 w [vi ki 0, vi ki d] 111 [vi ki 0, vi ki 0] 36
 go_enter Tryz.func90, Tryz.ntmps90
 go_wp2_with fail
 refine (R.out _).mono ?_
 rintro e W1 ⟨rfl, hb⟩
 have K1 := bsb K0 hb
 clear hb K0
 obtain ⟨c1_0_0, c1_0_1⟩ := (bo1 K1).c2
 obtain ⟨z1_0_0, z1_0_1⟩ := (bo1 K1).f2
 obtain ⟨c1_1_0, c1_1_1⟩ := (bo2 K1).c2
 go_wp2_with fail
 refine (C.out _).mono ?_
 rintro e W2 ⟨rfl, hw⟩
 rw [hw]
 clear hw W2
 have XF : Hid (Bx (W1.setCells (w.heap.size + 1) 0 [vi ki 0, vi ki 0]) (w.heap.size + 1) [vi ki 0, vi ki 0]) := (K1.out.at (w.heap.size + 1) [vi ki 0, vi ki 0] (by simp)).setAll _ rfl
 have BF : Hid (Below w.heap.size w (W1.setCells (w.heap.size + 1) 0 [vi ki 0, vi ki 0])) := below_setCells (by omega) _ _ _ K1.out.1
 have y0 := XF.out.c 0 rfl
 have y1 := XF.out.c 1 rfl
 simp only [World.setCells, Nat.zero_add] at y0 y1
 clear XF
 go_wp2
 exact bodyPost_ret (v := .tuple #[.agg #[vi ki 0, vi ki 0], vi ki 10]) (by simp [results, Tryz.results90, go_sem, y0, y1]) rfl ⟨rfl, BF.out⟩
end Go.Proofs.YtklehbmghjcmaaaGreatDoor.Dy
namespace Go.Proofs.YtklehbmghjcmaaaGreatDoor.Dy
open Go.RowKit
def mkV (y m d : Int) : Int := oV (Cvl.dayV y m d) (Cvl.dayE y m d)
def mkE (y m d : Int) : Int := oE (Cvl.dayV y m d) (Cvl.dayE y m d)
theorem make_any (y m d : Int) (w : World) (hL : Cvl.Lens w) :
  Calls Tryz.prog 155 #[vi ki y, vi ki m, vi ki d] w fun r w' => r = zr (.tuple #[.agg #[vi ki 0, vi ki (mkV y m d)], vi ki (mkE y m d)]) ∧ Below w.heap.size w w' :=
 make_run y m d _ _ _ _ (fun w h => Cvl.days_any y m d w h) (fun w h => of_any _ _ w h) w (lens_of hL)
theorem rmake_any (y m d : Int) (w : World) :
  Calls Tryz.prog 67 #[vi ki y, vi ki m, vi ki d] w fun r w' => r = zr (.tuple #[.agg #[vi ki 0, vi ki (mkV y m d)], vi ki (mkE y m d)]) ∧ Below w.heap.size w w' := by
 have D := Cvl.rdays_any y m d
 unfold mkV mkE
 generalize Cvl.dayV y m d = v at *
 generalize Cvl.dayE y m d = e at *
 by_cases he : e = 0
 ·subst he
  cases h : dok v
  ·rw [(o_no (.inr h)).1, (o_no (.inr h)).2]; exact rmake_false y m d v D (fun w => by rw [← h]; exact inside_any v w) w
  ·rw [(o_yes h).1, (o_yes h).2]; exact rmake_true y m d v D (fun w => by rw [← h]; exact inside_any v w) w
 ·rw [(o_no (.inl he)).1, (o_no (.inl he)).2]; exact rmake_bad y m d v e he D w
def PartsIs (i d y m q e : Int) : Prop := (dR i d = false ∧ y = 0 ∧ m = 0 ∧ q = 0 ∧ e = 1) ∨ (dR i d = true ∧ i ≠ 0 ∧ y = 0 ∧ m = 0 ∧ q = 0 ∧ e = 10) ∨ (i = 0 ∧ dok d = true ∧ Cv.Is d y m q ∧ e = 0)
theorem parts_any (i d y m q e : Int) (h : PartsIs i d y m q e) (w : World) (hL : Cvl.Lens w) :
  Calls Tryz.prog 153 #[.agg #[vi ki i, vi ki d]] w fun r w' => r = zr (.tuple #[vi ki y, vi ki m, vi ki q, vi ki e]) ∧ Below w.heap.size w w' := by
 rcases h with ⟨h, rfl, rfl, rfl, rfl⟩ | ⟨h, h0, rfl, rfl, rfl, rfl⟩ | ⟨rfl, h, hd, rfl⟩
 ·exact parts_no i d (fun w hh => by rw [← h]; exact right_any i d w hh) w (lens_of hL)
 ·exact parts_inf i d h0 (fun w hh => by rw [← h]; exact right_any i d w hh) w (lens_of hL)
 ·exact parts_yes d y m q 0 (fun w hh => by rw [← h]; exact right_any 0 d w hh) (fun w hh => Cvl.date_yes d y m q (can_dok h) hd w hh) w (lens_of hL)
def mvI (i d : Int) : Int := if dR i d = true then i else 0
def mvV (i d v e : Int) : Int := if dR i d = true then (if i = 0 then oV v e else d) else 0
def mvE (i d v e : Int) : Int := if dR i d = true then (if i = 0 then oE v e else 0) else 1
theorem mv_no {i d : Int} (h : dR i d = false) (v e : Int) : mvI i d = 0 ∧ mvV i d v e = 0 ∧ mvE i d v e = 1 := by
 have k : ¬ dR i d = true := by rw [h]; decide
 exact ⟨if_neg k, if_neg k, if_neg k⟩
theorem mv_inf {i d : Int} (h : dR i d = true) (h0 : i ≠ 0) (v e : Int) : mvI i d = i ∧ mvV i d v e = d ∧ mvE i d v e = 0 :=
 ⟨if_pos h, by unfold mvV; rw [if_pos h, if_neg h0], by unfold mvE; rw [if_pos h, if_neg h0]⟩
theorem mv_yes {d : Int} (h : dR 0 d = true) (v e : Int) : mvI 0 d = 0 ∧ mvV 0 d v e = oV v e ∧ mvE 0 d v e = oE v e :=
 ⟨if_pos h, by unfold mvV; rw [if_pos h, if_pos rfl], by unfold mvE; rw [if_pos h, if_pos rfl]⟩
theorem day_i64 {d : Int} (h : dok d = true) : -9223372036854775808 ≤ d ∧ d ≤ 9223372036854775807 := by have := dok_yes h; omega
theorem dadd_any (i d n : Int) (h1 : -9223372036854775808 ≤ n) (h2 : n ≤ 9223372036854775807) (w : World) (hL : Cvl.Lens w) :
  Calls Tryz.prog 99 #[.agg #[vi ki i, vi ki d], vi ki n] w fun r w' => r = zr (.tuple #[.agg #[vi ki (mvI i d), vi ki (mvV i d (smV (d + n)) (smE (d + n)))], vi ki (mvE i d (smV (d + n)) (smE (d + n)))]) ∧ Below w.heap.size w w' := by
 refine dadd_run i d n _ _ _ (fun w hL => ?_) w (lens_of hL)
 cases h : dR i d
 ·obtain ⟨a, b, c⟩ := mv_no h (smV (d + n)) (smE (d + n))
  rw [a, b, c]; exact mvd_no i d n (fun w hh => by rw [← h]; exact right_any i d w hh) w (lens_of hL)
 ·by_cases h0 : i = 0
  ·subst h0
   obtain ⟨a, b, c⟩ := mv_yes h (smV (d + n)) (smE (d + n))
   rw [a, b, c]
   obtain ⟨g1, g2⟩ := day_i64 h
   exact mvd_yes d n _ _ _ _ (fun w hh => by rw [← h]; exact right_any 0 d w hh) (fun w => days_meth n d _ _ (fun w => add_any d n g1 g2 h1 h2 w) w) (fun w hh => of_any _ _ w hh) w (lens_of hL)
  ·obtain ⟨a, b, c⟩ := mv_inf h h0 (smV (d + n)) (smE (d + n))
   rw [a, b, c]; exact mvd_inf i d n h0 (fun w hh => by rw [← h]; exact right_any i d w hh) w (lens_of hL)
def ofI (i u : Int) : Int := if sR i u = true then i else 0
def ofD (i u : Int) : Int := if sR i u = true ∧ i = 0 then u / 86400000000 else 0
def ofU (i u : Int) : Int := if sR i u = true ∧ i = 0 then u % 86400000000 else 0
def ofE (i u : Int) : Int := if sR i u = true then 0 else 1
theorem sof_any (i u : Int) (u1 : -9223372036854775808 ≤ u) (u2 : u ≤ 9223372036854775807) (w : World) (hL : Cvl.Lens w) :
  Calls Tryz.prog 97 #[.agg #[vi ki i, vi ki u]] w fun r w' => r = zr (.tuple #[.agg #[vi ki (ofI i u), vi ki (ofD i u)], vi ki (ofU i u), vi ki (ofE i u)]) ∧ Below w.heap.size w w' := by
 unfold ofI ofD ofU ofE
 cases h : sR i u
 ·rw [if_neg (by decide), if_neg (fun q => absurd q.1 (by decide)), if_neg (fun q => absurd q.1 (by decide)), if_neg (by decide)]; exact sof_no i u (fun w hh => by rw [← h]; exact rst_any i u u1 u2 w hh) w (lens_of hL)
 ·by_cases h0 : i = 0
  ·subst h0
   rw [if_pos rfl, if_pos ⟨rfl, rfl⟩, if_pos ⟨rfl, rfl⟩, if_pos rfl]; exact sof_yes u _ _ (fun w hh => by rw [← h]; exact rst_any 0 u u1 u2 w hh) (fun w => split_any u u1 u2 w) w (lens_of hL)
  ·rw [if_pos rfl, if_neg (fun q => h0 q.2), if_neg (fun q => h0 q.2), if_pos rfl]; exact sof_inf i u h0 (fun w hh => by rw [← h]; exact rst_any i u u1 u2 w hh) w (lens_of hL)
def stR (i d u : Int) : Prop := dR i d = true ∧ 0 ≤ u ∧ u ≤ 86400000000
instance (i d u : Int) : Decidable (stR i d u) := by unfold stR; infer_instance
def stI (i d u : Int) : Int := if stR i d u then i else 0
def stV (i d u : Int) : Int := if stR i d u ∧ i = 0 ∧ dok ((d * 86400000000 + u) / 86400000000) = true then d * 86400000000 + u else 0
def stE (i d u : Int) : Int := if stR i d u then (if i = 0 ∧ dok ((d * 86400000000 + u) / 86400000000) = false then 10 else 0) else 1
theorem st_bd {d u : Int} (h : dok d = true) (h0 : 0 ≤ u) (h1 : u ≤ 86400000000) : -9223372036854775808 ≤ d * 86400000000 + u ∧ d * 86400000000 + u ≤ 9223372036854775807 := by have := dok_yes h; omega
theorem st_not {i d u : Int} (h : ¬ stR i d u) : stI i d u = 0 ∧ stV i d u = 0 ∧ stE i d u = 1 := ⟨if_neg h, if_neg (fun k => h k.1), if_neg h⟩
theorem st_infs {i d u : Int} (h : stR i d u) (h0 : i ≠ 0) : stI i d u = i ∧ stV i d u = 0 ∧ stE i d u = 0 :=
 ⟨if_pos h, if_neg (fun k => h0 k.2.1), by unfold stE; rw [if_pos h, if_neg (fun k => h0 k.1)]⟩
theorem st_in {d u : Int} (h : stR 0 d u) (hk : dok ((d * 86400000000 + u) / 86400000000) = true) : stI 0 d u = 0 ∧ stV 0 d u = d * 86400000000 + u ∧ stE 0 d u = 0 :=
 ⟨if_pos h, if_pos ⟨h, rfl, hk⟩, by unfold stE; rw [if_pos h, if_neg (fun k => by rw [hk] at k; exact absurd k.2 (by decide))]⟩
theorem st_out {d u : Int} (h : stR 0 d u) (hk : dok ((d * 86400000000 + u) / 86400000000) = false) : stI 0 d u = 0 ∧ stV 0 d u = 0 ∧ stE 0 d u = 10 :=
 ⟨if_pos h, if_neg (fun k => by rw [hk] at k; exact absurd k.2.2 (by decide)), by unfold stE; rw [if_pos h, if_pos ⟨rfl, hk⟩]⟩
theorem stamp_any (i d u : Int) (w : World) (hL : Cvl.Lens w) :
  Calls Tryz.prog 100 #[.agg #[vi ki i, vi ki d], vi ki u] w fun r w' => r = zr (.tuple #[.agg #[vi ki (stI i d u), vi ki (stV i d u)], vi ki (stE i d u)]) ∧ Below w.heap.size w w' := by
 have RR : ∀ c, dR i d = c → Hid (∀ w : World, Cvl.Lens w → Calls Tryz.prog 143 #[.agg #[vi ki i, vi ki d]] w fun r w' => r = zr (.bool c) ∧ Below w.heap.size w w') := fun c hc w hh => by rw [← hc]; exact right_any i d w hh
 by_cases hs : stR i d u
 ·by_cases h0 : i = 0
  ·subst h0
   have hd : dok d = true := hs.1
   obtain ⟨g1, g2⟩ := dok_yes hd
   obtain ⟨b1, b2⟩ := st_bd hd hs.2.1 hs.2.2
   cases hk : dok ((d * 86400000000 + u) / 86400000000)
   ·obtain ⟨a, b, c⟩ := st_out hs hk
    rw [a, b, c]; exact st_false d u g1 g2 (by have := hs.2.1; omega) (by have := hs.2.2; omega) (RR true hs.1) (fun w hh => by have R := rst_any 0 (d * 86400000000 + u) b1 b2 w hh; rw [sR_0, hk] at R; exact R) w (lens_of hL)
   ·obtain ⟨a, b, c⟩ := st_in hs hk
    rw [a, b, c]; exact st_true d u g1 g2 (by have := hs.2.1; omega) (by have := hs.2.2; omega) (RR true hs.1) (fun w hh => by have R := rst_any 0 (d * 86400000000 + u) b1 b2 w hh; rw [sR_0, hk] at R; exact R) w (lens_of hL)
  ·obtain ⟨a, b, c⟩ := st_infs hs h0
   rw [a, b, c]; exact st_inf i d u h0 (by have := hs.2.1; omega) (by have := hs.2.2; omega) (RR true hs.1) w (lens_of hL)
 ·obtain ⟨a, b, c⟩ := st_not hs
  rw [a, b, c]
  cases h : dR i d
  ·exact st_no i d u (RR false h) w (lens_of hL)
  ·by_cases h1 : u < 0
   ·exact st_neg i d u h1 (RR true h) w (lens_of hL)
   ·exact st_big i d u (by unfold stR at hs; have : ¬ (0 ≤ u ∧ u ≤ 86400000000) := fun k => hs ⟨h, k⟩; omega) (RR true h) w (lens_of hL)
theorem rstamp_any (i d u : Int) (w : World) :
  Calls Tryz.prog 90 #[.agg #[vi ki i, vi ki d], vi ki u] w fun r w' => r = zr (.tuple #[.agg #[vi ki (stI i d u), vi ki (stV i d u)], vi ki (stE i d u)]) ∧ Below w.heap.size w w' := by
 have RR : ∀ c, dR i d = c → Hid (∀ w : World, Calls Tryz.prog 113 #[.agg #[vi ki i, vi ki d]] w fun r w' => r = zr (.bool c) ∧ Below w.heap.size w w') := fun c hc w => by rw [← hc]; exact rright_any i d w
 by_cases hs : stR i d u
 ·by_cases h0 : i = 0
  ·subst h0
   have hd : dok d = true := hs.1
   obtain ⟨g1, g2⟩ := dok_yes hd
   by_cases hu : u = 86400000000
   ·subst hu
    have e1 : (d * 86400000000 + 86400000000) / 86400000000 = d + 1 := by omega
    have e2 : d * 86400000000 + 86400000000 = (d + 1) * 86400000000 := by omega
    cases hk : dok (d + 1)
    ·obtain ⟨a, b, c⟩ := st_out hs (by rw [e1]; exact hk)
     rw [a, b, c]; exact rt_end_false d g1 g2 (RR true hs.1) (fun w => by rw [← hk]; exact inside_any (d + 1) w) w
    ·obtain ⟨a, b, c⟩ := st_in hs (by rw [e1]; exact hk)
     rw [a, b, c, e2]; exact rt_end_true d g1 g2 (RR true hs.1) (fun w => by rw [← hk]; exact inside_any (d + 1) w) w
   ·have e1 : (d * 86400000000 + u) / 86400000000 = d := by have := hs.2; omega
    obtain ⟨a, b, c⟩ := st_in hs (by rw [e1]; exact hd)
    rw [a, b, c]; exact rt_true d u g1 g2 (by have := hs.2.1; omega) (by have := hs.2.2; omega) (RR true hs.1) (fun w => by rw [← hd]; exact inside_any d w) w
  ·obtain ⟨a, b, c⟩ := st_infs hs h0
   rw [a, b, c]; exact rt_inf i d u h0 (by have := hs.2.1; omega) (by have := hs.2.2; omega) (RR true hs.1) w
 ·obtain ⟨a, b, c⟩ := st_not hs
  rw [a, b, c]
  cases h : dR i d
  ·exact rt_no i d u (RR false h) w
  ·by_cases h1 : u < 0
   ·exact rt_neg i d u h1 (RR true h) w
   ·exact rt_big i d u (by unfold stR at hs; have : ¬ (0 ≤ u ∧ u ≤ 86400000000) := fun k => hs ⟨h, k⟩; omega) (RR true h) w
theorem start_any (i d : Int) (w : World) (hL : Cvl.Lens w) :
  Calls Tryz.prog 110 #[.agg #[vi ki i, vi ki d]] w fun r w' => r = zr (.tuple #[.agg #[vi ki (stI i d 0), vi ki (stV i d 0)], vi ki (stE i d 0)]) ∧ Below w.heap.size w w' :=
 st0_run i d _ _ _ (fun w hh => stamp_any i d 0 w hh) w (lens_of hL)
end Go.Proofs.YtklehbmghjcmaaaGreatDoor.Dy
namespace Go.Proofs.YtklehbmghjcmaaaGreatDoor.Sp
open Go.RowKit
theorem ret_bool {a b : Bool} (h : a = b) : Ending.returned (.bool a) = zr (.bool b) := by rw [h]
def cnt (n : Int) : Bool := decide (-2147483647 ≤ n ∧ n ≤ 2147483647)
theorem cnt_yes {n : Int} (h : cnt n = true) : -2147483647 ≤ n ∧ n ≤ 2147483647 := of_decide_eq_true h
theorem cnt_t (n : Int) (h1 : -2147483647 ≤ n) (h2 : n ≤ 2147483647)
  (w : World) :
  Calls Tryz.prog 56 #[vi ki n] w fun r' w' => r' = zr (.bool true) ∧ w' = w := by
 go_enter Tryz.func56, Tryz.ntmps56
 go_wp2
 go_ret
 exact ⟨by first | rfl | exact ret_bool (by simp; omega), rfl⟩
theorem cnt_f1 (n : Int) (h1 : ¬ -2147483647 ≤ n)
  (w : World) :
  Calls Tryz.prog 56 #[vi ki n] w fun r' w' => r' = zr (.bool false) ∧ w' = w := by
 go_enter Tryz.func56, Tryz.ntmps56
 go_wp2
 go_ret
 exact ⟨by first | rfl | exact ret_bool (by simp; omega), rfl⟩
theorem cnt_f2 (n : Int) (h1 : -2147483647 ≤ n) (h2 : ¬ n ≤ 2147483647)
  (w : World) :
  Calls Tryz.prog 56 #[vi ki n] w fun r' w' => r' = zr (.bool false) ∧ w' = w := by
 go_enter Tryz.func56, Tryz.ntmps56
 go_wp2
 go_ret
 exact ⟨by first | rfl | exact ret_bool (by simp; omega), rfl⟩
theorem isCount_any (n : Int) (w : World) : Calls Tryz.prog 56 #[vi ki n] w fun r w' => r = zr (.bool (cnt n)) ∧ w' = w := by
 unfold cnt
 by_cases h1 : -2147483647 ≤ n
 ·by_cases h2 : n ≤ 2147483647
  ·rw [decide_eq_true ⟨h1, h2⟩]; exact cnt_t n h1 h2 w
  ·rw [decide_eq_false (fun k => h2 k.2)]; exact cnt_f2 n h1 h2 w
 ·rw [decide_eq_false (fun k => h1 k.1)]; exact cnt_f1 n h1 w
end Go.Proofs.YtklehbmghjcmaaaGreatDoor.Sp
namespace Go.Proofs.YtklehbmghjcmaaaGreatDoor.Sp
open Go.RowKit
def pR (i m d u : Int) : Bool := if i = 0 then cnt m && (cnt d && decide (-9223372036854775807 ≤ u ∧ u ≤ 9223372036854775807)) else decide ((i = -1 ∨ i = 1) ∧ m = 0 ∧ d = 0 ∧ u = 0)
theorem pR_1 {i : Int} (h : i ≠ 0) (m d u : Int) : pR i m d u = decide ((i = -1 ∨ i = 1) ∧ m = 0 ∧ d = 0 ∧ u = 0) := if_neg h
theorem pR_0 (m d u : Int) : pR 0 m d u = (cnt m && (cnt d && decide (-9223372036854775807 ≤ u ∧ u ≤ 9223372036854775807))) := rfl
theorem pR_yes {i m d u : Int} (h : pR i m d u = true) : (i = 0 ∧ -2147483647 ≤ m ∧ m ≤ 2147483647 ∧ -2147483647 ≤ d ∧ d ≤ 2147483647 ∧ -9223372036854775807 ≤ u ∧ u ≤ 9223372036854775807) ∨ ((i = -1 ∨ i = 1) ∧ m = 0 ∧ d = 0 ∧ u = 0) := by
 by_cases h0 : i = 0
 ·subst h0
  rw [pR_0, Bool.and_eq_true, Bool.and_eq_true] at h
  obtain ⟨a, b, c⟩ := h
  exact .inl ⟨rfl, (cnt_yes a).1, (cnt_yes a).2, (cnt_yes b).1, (cnt_yes b).2, (of_decide_eq_true c).1, (of_decide_eq_true c).2⟩
 ·rw [pR_1 h0] at h
  exact .inr (of_decide_eq_true h)
theorem pr_f1 (m d u : Int)
  (C1 : Hid (∀ w : World, Calls Tryz.prog 56 #[vi ki m] w fun r' w' => r' = zr (.bool false) ∧ w' = w))
  (w : World) :
  Calls Tryz.prog 23 #[.agg #[vi ki 0, vi ki m, vi ki d, vi ki u]] w fun r' w' => r' = zr (.bool false) ∧ Below w.heap.size w w' := by
 have K0 := bsn1 w [vi ki 0, vi ki m, vi ki d, vi ki u] 59
 go_enter Tryz.func23, Tryz.ntmps23
 go_wp2_with fail
 refine (C1.out _).mono ?_
 rintro e W1 ⟨rfl, rfl⟩
 go_wp2
 go_ret
 exact ⟨rfl, K0.out.1⟩
theorem pr_f2 (m d u : Int)
  (C1 : Hid (∀ w : World, Calls Tryz.prog 56 #[vi ki m] w fun r' w' => r' = zr (.bool true) ∧ w' = w))
  (C2 : Hid (∀ w : World, Calls Tryz.prog 56 #[vi ki d] w fun r' w' => r' = zr (.bool false) ∧ w' = w))
  (w : World) :
  Calls Tryz.prog 23 #[.agg #[vi ki 0, vi ki m, vi ki d, vi ki u]] w fun r' w' => r' = zr (.bool false) ∧ Below w.heap.size w w' := by
 have K0 := bsn1 w [vi ki 0, vi ki m, vi ki d, vi ki u] 59
 go_enter Tryz.func23, Tryz.ntmps23
 go_wp2_with fail
 refine (C1.out _).mono ?_
 rintro e W1 ⟨rfl, rfl⟩
 go_wp2_with fail
 refine (C2.out _).mono ?_
 rintro e W2 ⟨rfl, rfl⟩
 go_wp2
 go_ret
 exact ⟨rfl, K0.out.1⟩
theorem pr_f3 (m d : Int)
  (C1 : Hid (∀ w : World, Calls Tryz.prog 56 #[vi ki m] w fun r' w' => r' = zr (.bool true) ∧ w' = w))
  (C2 : Hid (∀ w : World, Calls Tryz.prog 56 #[vi ki d] w fun r' w' => r' = zr (.bool true) ∧ w' = w))
  (w : World) :
  Calls Tryz.prog 23 #[.agg #[vi ki 0, vi ki m, vi ki d, vi ki (-9223372036854775808)]] w fun r' w' => r' = zr (.bool false) ∧ Below w.heap.size w w' := by
 have K0 := bsn1 w [vi ki 0, vi ki m, vi ki d, vi ki (-9223372036854775808)] 59
 go_enter Tryz.func23, Tryz.ntmps23
 go_wp2_with fail
 refine (C1.out _).mono ?_
 rintro e W1 ⟨rfl, rfl⟩
 go_wp2_with fail
 refine (C2.out _).mono ?_
 rintro e W2 ⟨rfl, rfl⟩
 go_wp2
 go_ret
 exact ⟨rfl, K0.out.1⟩
theorem pr_t (m d u : Int) (hu : u ≠ -9223372036854775808)
  (C1 : Hid (∀ w : World, Calls Tryz.prog 56 #[vi ki m] w fun r' w' => r' = zr (.bool true) ∧ w' = w))
  (C2 : Hid (∀ w : World, Calls Tryz.prog 56 #[vi ki d] w fun r' w' => r' = zr (.bool true) ∧ w' = w))
  (w : World) :
  Calls Tryz.prog 23 #[.agg #[vi ki 0, vi ki m, vi ki d, vi ki u]] w fun r' w' => r' = zr (.bool true) ∧ Below w.heap.size w w' := by
 have u1 : (u != -9223372036854775808) = true := bne_iff_ne.2 hu
 have K0 := bsn1 w [vi ki 0, vi ki m, vi ki d, vi ki u] 59
 go_enter Tryz.func23, Tryz.ntmps23
 go_wp2_with fail
 refine (C1.out _).mono ?_
 rintro e W1 ⟨rfl, rfl⟩
 go_wp2_with fail
 refine (C2.out _).mono ?_
 rintro e W2 ⟨rfl, rfl⟩
 go_wp2
 go_ret
 exact ⟨rfl, K0.out.1⟩
theorem pr_m0 
  (w : World) :
  Calls Tryz.prog 23 #[.agg #[vi ki (-1), vi ki 0, vi ki 0, vi ki 0]] w fun r' w' => r' = zr (.bool true) ∧ Below w.heap.size w w' := by
 have K0 := bsn1 w [vi ki (-1), vi ki 0, vi ki 0, vi ki 0] 59
 go_enter Tryz.func23, Tryz.ntmps23
 go_wp2
 go_ret
 exact ⟨rfl, K0.out.1⟩
theorem pr_m1 (m d u : Int) (h : m ≠ 0)
  (w : World) :
  Calls Tryz.prog 23 #[.agg #[vi ki (-1), vi ki m, vi ki d, vi ki u]] w fun r' w' => r' = zr (.bool false) ∧ Below w.heap.size w w' := by
 have h1 : (m == 0) = false := by simpa using h
 have K0 := bsn1 w [vi ki (-1), vi ki m, vi ki d, vi ki u] 59
 go_enter Tryz.func23, Tryz.ntmps23
 go_wp2
 go_ret
 exact ⟨rfl, K0.out.1⟩
theorem pr_m2 (d u : Int) (h : d ≠ 0)
  (w : World) :
  Calls Tryz.prog 23 #[.agg #[vi ki (-1), vi ki 0, vi ki d, vi ki u]] w fun r' w' => r' = zr (.bool false) ∧ Below w.heap.size w w' := by
 have h1 : (d == 0) = false := by simpa using h
 have K0 := bsn1 w [vi ki (-1), vi ki 0, vi ki d, vi ki u] 59
 go_enter Tryz.func23, Tryz.ntmps23
 go_wp2
 go_ret
 exact ⟨rfl, K0.out.1⟩
theorem pr_m3 (u : Int) (h : u ≠ 0)
  (w : World) :
  Calls Tryz.prog 23 #[.agg #[vi ki (-1), vi ki 0, vi ki 0, vi ki u]] w fun r' w' => r' = zr (.bool false) ∧ Below w.heap.size w w' := by
 have h1 : (u == 0) = false := by simpa using h
 have K0 := bsn1 w [vi ki (-1), vi ki 0, vi ki 0, vi ki u] 59
 go_enter Tryz.func23, Tryz.ntmps23
 go_wp2
 go_ret
 exact ⟨rfl, K0.out.1⟩
theorem pr_p0 
  (w : World) :
  Calls Tryz.prog 23 #[.agg #[vi ki 1, vi ki 0, vi ki 0, vi ki 0]] w fun r' w' => r' = zr (.bool true) ∧ Below w.heap.size w w' := by
 have K0 := bsn1 w [vi ki 1, vi ki 0, vi ki 0, vi ki 0] 59
 go_enter Tryz.func23, Tryz.ntmps23
 go_wp2
 go_ret
 exact ⟨rfl, K0.out.1⟩
theorem pr_p1 (m d u : Int) (h : m ≠ 0)
  (w : World) :
  Calls Tryz.prog 23 #[.agg #[vi ki 1, vi ki m, vi ki d, vi ki u]] w fun r' w' => r' = zr (.bool false) ∧ Below w.heap.size w w' := by
 have h1 : (m == 0) = false := by simpa using h
 have K0 := bsn1 w [vi ki 1, vi ki m, vi ki d, vi ki u] 59
 go_enter Tryz.func23, Tryz.ntmps23
 go_wp2
 go_ret
 exact ⟨rfl, K0.out.1⟩
theorem pr_p2 (d u : Int) (h : d ≠ 0)
  (w : World) :
  Calls Tryz.prog 23 #[.agg #[vi ki 1, vi ki 0, vi ki d, vi ki u]] w fun r' w' => r' = zr (.bool false) ∧ Below w.heap.size w w' := by
 have h1 : (d == 0) = false := by simpa using h
 have K0 := bsn1 w [vi ki 1, vi ki 0, vi ki d, vi ki u] 59
 go_enter Tryz.func23, Tryz.ntmps23
 go_wp2
 go_ret
 exact ⟨rfl, K0.out.1⟩
theorem pr_p3 (u : Int) (h : u ≠ 0)
  (w : World) :
  Calls Tryz.prog 23 #[.agg #[vi ki 1, vi ki 0, vi ki 0, vi ki u]] w fun r' w' => r' = zr (.bool false) ∧ Below w.heap.size w w' := by
 have h1 : (u == 0) = false := by simpa using h
 have K0 := bsn1 w [vi ki 1, vi ki 0, vi ki 0, vi ki u] 59
 go_enter Tryz.func23, Tryz.ntmps23
 go_wp2
 go_ret
 exact ⟨rfl, K0.out.1⟩
theorem pr_x (i m d u : Int) (h0 : i ≠ 0) (h1 : i ≠ -1) (h2 : i ≠ 1)
  (w : World) :
  Calls Tryz.prog 23 #[.agg #[vi ki i, vi ki m, vi ki d, vi ki u]] w fun r' w' => r' = zr (.bool false) ∧ Below w.heap.size w w' := by
 have g0 : (i == 0) = false := by simpa using h0
 have g9 : (i != 0) = true := bne_iff_ne.2 h0
 have g1 : (i == -1) = false := by simpa using h1
 have g2 : (i == 1) = false := by simpa using h2
 have K0 := bsn1 w [vi ki i, vi ki m, vi ki d, vi ki u] 59
 go_enter Tryz.func23, Tryz.ntmps23
 go_wp2
 go_ret
 exact ⟨rfl, K0.out.1⟩
theorem pr_any (i m d u : Int) (u1 : -9223372036854775808 ≤ u) (u2 : u ≤ 9223372036854775807) (w : World) :
  Calls Tryz.prog 23 #[.agg #[vi ki i, vi ki m, vi ki d, vi ki u]] w fun r w' => r = zr (.bool (pR i m d u)) ∧ Below w.heap.size w w' := by
 by_cases h0 : i = 0
 ·subst h0
  rw [pR_0]
  cases c1 : cnt m
  ·exact pr_f1 m d u (fun w => by rw [← c1]; exact isCount_any m w) w
  ·cases c2 : cnt d
   ·exact pr_f2 m d u (fun w => by rw [← c1]; exact isCount_any m w) (fun w => by rw [← c2]; exact isCount_any d w) w
   ·by_cases hu : u = -9223372036854775808
    ·subst hu
     exact pr_f3 m d (fun w => by rw [← c1]; exact isCount_any m w) (fun w => by rw [← c2]; exact isCount_any d w) w
    ·rw [decide_eq_true ⟨by omega, u2⟩]
     exact pr_t m d u hu (fun w => by rw [← c1]; exact isCount_any m w) (fun w => by rw [← c2]; exact isCount_any d w) w
 ·rw [pR_1 h0]
  by_cases g1 : i = -1
  ·subst g1
   by_cases a : m = 0
   ·subst a
    by_cases b : d = 0
    ·subst b
     by_cases c : u = 0
     ·subst c
      rw [decide_eq_true ⟨.inl rfl, rfl, rfl, rfl⟩]; exact pr_m0 w
     ·rw [decide_eq_false (fun q => c q.2.2.2)]; exact pr_m3 u c w
    ·rw [decide_eq_false (fun q => b q.2.2.1)]; exact pr_m2 d u b w
   ·rw [decide_eq_false (fun q => a q.2.1)]; exact pr_m1 m d u a w
  ·by_cases g2 : i = 1
   ·subst g2
    by_cases a : m = 0
    ·subst a
     by_cases b : d = 0
     ·subst b
      by_cases c : u = 0
      ·subst c
       rw [decide_eq_true ⟨.inr rfl, rfl, rfl, rfl⟩]; exact pr_p0 w
      ·rw [decide_eq_false (fun q => c q.2.2.2)]; exact pr_p3 u c w
     ·rw [decide_eq_false (fun q => b q.2.2.1)]; exact pr_p2 d u b w
    ·rw [decide_eq_false (fun q => a q.2.1)]; exact pr_p1 m d u a w
   ·rw [decide_eq_false (fun q => q.1.elim g1 g2)]; exact pr_x i m d u h0 g1 g2 w
end Go.Proofs.YtklehbmghjcmaaaGreatDoor.Sp
namespace Go.Proofs.YtklehbmghjcmaaaGreatDoor.Sp
open Go.RowKit
end Go.Proofs.YtklehbmghjcmaaaGreatDoor.Sp
namespace Go.Proofs.YtklehbmghjcmaaaGreatDoor.Sp
open Go.RowKit
end Go.Proofs.YtklehbmghjcmaaaGreatDoor.Sp
namespace Go.Proofs.YtklehbmghjcmaaaGreatDoor.Sp
open Go.RowKit
structure R5 where
 (i m d u e : Int)
abbrev v5 (x : R5) : Value := .tuple #[.agg #[vi ki x.i, vi ki x.m, vi ki x.d, vi ki x.u], vi ki x.e]
abbrev a4 (i m d u : Int) : Value := .agg #[vi ki i, vi ki m, vi ki d, vi ki u]
end Go.Proofs.YtklehbmghjcmaaaGreatDoor.Sp
namespace Go.Proofs.YtklehbmghjcmaaaGreatDoor
open Go.RowKit
theorem rsR {i u : Int} {c : Bool} (h : Dy.sR i u = c) (u1 : -9223372036854775808 ≤ u) (u2 : u ≤ 9223372036854775807) (w : World) (hw : Cvl.Lens w) :
  Calls Tryz.prog 32 #[.agg #[vi ki i, vi ki u]] w fun r' w' => r' = zr (.bool c) ∧ Below w.heap.size w w' := by
 have R := Dy.rst_any i u u1 u2 w hw
 rw [h] at R
 exact R
theorem is_first (y m : Int) (h1 : 1 ≤ m) (h2 : m ≤ 12) : Cv.Is (Cv.S y + Cv.cum y m) y m 1 := by
 have := Cv.len_01 y m h1 h2
 exact ⟨h1, h2, by decide, by omega, by omega⟩
theorem make_first {y m n : Int} (h : Cv.Is n y m 1) : Dy.mkV y m 1 = (if Dy.dok n = true then n else 0) ∧ Dy.mkE y m 1 = (if Dy.dok n = true then 0 else 10) := by
 have hk := Dy.dok_year h
 obtain ⟨h1, h2, h3, h4, h5⟩ := h
 unfold Dy.mkV Dy.mkE Dy.oV Dy.oE Cvl.dayV Cvl.dayE
 by_cases hr : Cvl.right y m 1 = true
 ·rw [if_pos hr, if_pos hr]
  have e : Cv.S y + Cv.cum y m + 1 - 1 = n := by omega
  rw [e]
  simp
 ·have hn : ¬ (Dy.dok n = true) := by
   rw [hk]
   intro q
   have q' := of_decide_eq_true q
   exact hr (Cvl.right_yes ⟨by omega, by omega, h3, h4⟩)
  rw [if_neg hr, if_neg hr, if_neg hn, if_neg hn, if_neg (fun q => absurd q.1 (by decide)), if_neg (fun q => absurd q.1 (by decide))]
  exact ⟨rfl, rfl⟩
def fyN (f y : Int) : Int := if f = 10 then y - y % 10 else if f = 11 then y - (y - 1) % 100 else if f = 12 then y - (y - 1) % 1000 else y
def fmN (f m : Int) : Int := if f = 7 then m else if f = 8 then 3 * ((m + 2) / 3 - 1) + 1 else 1
def fdN (f d y m : Int) : Int := if f = 6 then d - (d + 5) % 7 else Cv.S (fyN f y) + Cv.cum (fyN f y) (fmN f m)
theorem fm_bd (f m : Int) (m1 : 1 ≤ m) (m2 : m ≤ 12) : 1 ≤ fmN f m ∧ fmN f m ≤ 12 ∧ fmN f m ≤ m := by
 unfold fmN; split
 ·omega
 ·split <;> omega
def fdV (n : Int) : Int := if Dy.dok n = true then n else 0
def fdE (n : Int) : Int := if Dy.dok n = true then 0 else 10
theorem year_bd {d y m q : Int} (h : Cv.Is d y m q) (hd : Dy.dok d = true) : -4712 ≤ y ∧ y ≤ 294276 := by
 have := Dy.dok_year h
 rw [hd] at this
 exact of_decide_eq_true this.symm
theorem wkd_any (d n : Int) (h : n = (d + 5) % 7 + 1) (w : World) : Calls Tryz.prog 154 #[.agg #[vi ki 0, vi ki d]] w fun r' w' => r' = zr (vi ki n) ∧ Below w.heap.size w w' := by
 have WD := fun w => Cvl.weekday_any d w
 by_cases h0 : (d + 6) % 7 = 0
 ·have e : n = 7 := by omega
  subst e
  exact wk_0 0 d _ h0 WD w
 ·have e : n = (d + 6) % 7 := by omega
  rw [e]
  exact wk_1 0 d _ h0 WD w
theorem fyc_any (y wi ma x : Int) (y1 : -1000000 ≤ y) (y2 : y ≤ 1000000) (w1 : 0 ≤ wi) (w2 : wi ≤ 1) (m1 : 2 ≤ ma) (m2 : ma ≤ 1000) (h : x = y - (y - wi) % ma) (w : World) :
  Calls Tryz.prog 157 #[vi ki y, vi ki wi, vi ki ma] w fun r' w' => r' = zr (vi ki x) ∧ Below w.heap.size w w' := by
 have g1 := Int.emod_nonneg (y - wi) (show ma ≠ 0 by omega)
 have g2 := Int.emod_lt_of_pos (y - wi) (show 0 < ma by omega)
 have MO := fun w => mod_in (y - wi) ma (by omega) (by omega) (by omega) w
 rw [Int.fmod_eq_emod_of_nonneg _ (show 0 ≤ ma by omega)] at MO
 rw [h]
 exact fy_any y wi ma _ y1 y2 w1 w2 g1 (by omega) MO w
theorem fd_any (f d y m q : Int) (f1 : 6 ≤ f) (f2 : f ≤ 12) (hq : Cv.Is d y m q) (hd : Dy.dok d = true) (w : World) (hL : Cvl.Lens w) :
  Calls Tryz.prog 109 #[vi ki f, .agg #[vi ki 0, vi ki d]] w fun r' w' => r' = zr (.tuple #[.agg #[vi ki 0, vi ki (fdV (fdN f d y m))], vi ki (fdE (fdN f d y m))]) ∧ Below w.heap.size w w' := by
 have PA : ∀ w : World, Cvl.Lens w → _ := fun w hw => Dy.parts_any 0 d y m q 0 (.inr (.inr ⟨rfl, hd, hq, rfl⟩)) w hw
 have kd := Dy.dok_yes hd
 obtain ⟨y1, y2⟩ := year_bd hq hd
 obtain ⟨m1, m2, q1, q2, _⟩ := hq
 have hLL := Dy.lens_of hL
 by_cases h6 : f = 6
 ·subst h6
  have DA := fun w hw => Dy.dadd_any 0 d (1 - ((d + 5) % 7 + 1)) (by omega) (by omega) w hw
  have eN : d + (1 - ((d + 5) % 7 + 1)) = fdN 6 d y m := by unfold fdN; rw [if_pos rfl]; omega
  have b := Dy.mv_yes (d := d) hd (smV (d + (1 - ((d + 5) % 7 + 1)))) (smE (d + (1 - ((d + 5) % 7 + 1))))
  rw [b.1, b.2.1, b.2.2, smV_in (by omega) (by omega), smE_in (by omega) (by omega), eN] at DA
  have eV : Dy.oV (fdN 6 d y m) 0 = fdV (fdN 6 d y m) := by unfold Dy.oV fdV; simp
  have eE : Dy.oE (fdN 6 d y m) 0 = fdE (fdN 6 d y m) := by unfold Dy.oE fdE; simp
  rw [eV, eE] at DA
  exact fd_6 d y m q _ _ _ (by omega) (by omega) PA (fun w => wkd_any d _ rfl w) DA w hLL
 ·obtain ⟨c1, c2, _⟩ := fm_bd f m m1 m2
  have hF := is_first (fyN f y) (fmN f m) c1 c2
  have eN : Cv.S (fyN f y) + Cv.cum (fyN f y) (fmN f m) = fdN f d y m := by unfold fdN; rw [if_neg h6]
  rw [eN] at hF
  obtain ⟨eV, eE⟩ := make_first hF
  have MK : ∀ w : World, Cvl.Lens w → Calls Tryz.prog 155 #[vi ki (fyN f y), vi ki (fmN f m), vi ki 1] w fun r' w' => r' = zr (.tuple #[.agg #[vi ki 0, vi ki (fdV (fdN f d y m))], vi ki (fdE (fdN f d y m))]) ∧ Below w.heap.size w w' := fun w hw => by
   have R := Dy.make_any (fyN f y) (fmN f m) 1 w hw
   rw [eV, eE] at R
   exact R
  obtain ⟨v, hv⟩ : ∃ v, fdV (fdN f d y m) = v := ⟨_, rfl⟩
  obtain ⟨e, he⟩ : ∃ e, fdE (fdN f d y m) = e := ⟨_, rfl⟩
  rw [hv, he] at MK ⊢
  clear hF eN eV eE hv he
  obtain rfl | rfl | rfl | rfl | rfl | rfl : f = 7 ∨ f = 8 ∨ f = 9 ∨ f = 10 ∨ f = 11 ∨ f = 12 := by omega
  ·exact fd_7 d y m q v e PA MK w hLL
  ·exact fd_8 d y m q ((m + 2) / 3) v e (by omega) (by omega) PA (fun w => quarter_any m m1 m2 w) MK w hLL
  ·exact fd_9 d y m q v e PA MK w hLL
  ·exact fd_10 d y m q (fyN 10 y) v e PA (fun w => fyc_any y 0 10 _ (by omega) (by omega) (by decide) (by decide) (by decide) (by decide) (by unfold fyN; simp) w) MK w hLL
  ·exact fd_11 d y m q (fyN 11 y) v e PA (fun w => fyc_any y 1 100 _ (by omega) (by omega) (by decide) (by decide) (by decide) (by decide) (by unfold fyN; simp) w) MK w hLL
  ·exact fd_12 d y m q (fyN 12 y) v e PA (fun w => fyc_any y 1 1000 _ (by omega) (by omega) (by decide) (by decide) (by decide) (by decide) (by unfold fyN; simp) w) MK w hLL
def bgV (f u y m : Int) : Int := if f ≤ 5 then u - u % (opTab.getD f.toNat 1) else if Dy.dok (fdN f (u / 86400000000) y m) = true then fdN f (u / 86400000000) y m * 86400000000 else 0
def bgE (f u y m : Int) : Int := if f ≤ 5 then 0 else if Dy.dok (fdN f (u / 86400000000) y m) = true then 0 else 10
theorem of_in {u : Int} (hd : Dy.dok (u / 86400000000) = true) (w : World) (hw : Cvl.Lens w) :
  Calls Tryz.prog 97 #[.agg #[vi ki 0, vi ki u]] w fun r' w' => r' = zr (.tuple #[.agg #[vi ki 0, vi ki (u / 86400000000)], vi ki (u % 86400000000), vi ki 0]) ∧ Below w.heap.size w w' := by
 have kd := Dy.dok_yes hd
 have hs : Dy.sR 0 u = true := hd
 have R := Dy.sof_any 0 u (by omega) (by omega) w hw
 rw [show Dy.ofI 0 u = 0 by unfold Dy.ofI; rw [if_pos hs], show Dy.ofD 0 u = u / 86400000000 by unfold Dy.ofD; rw [if_pos ⟨hs, rfl⟩], show Dy.ofU 0 u = u % 86400000000 by unfold Dy.ofU; rw [if_pos ⟨hs, rfl⟩], show Dy.ofE 0 u = 0 by unfold Dy.ofE; rw [if_pos hs]] at R
 exact R
theorem stm_in {d x v : Int} (hd : Dy.dok d = true) (x1 : 0 ≤ x) (x2 : x < 86400000000) (hv : v = d * 86400000000 + x) (w : World) (hw : Cvl.Lens w) :
  Calls Tryz.prog 100 #[.agg #[vi ki 0, vi ki d], vi ki x] w fun r' w' => r' = zr (.tuple #[.agg #[vi ki 0, vi ki v], vi ki 0]) ∧ Below w.heap.size w w' := by
 have R := Dy.stamp_any 0 d x w hw
 have k := Dy.st_in (d := d) (u := x) ⟨hd, x1, by omega⟩ (by rw [show (d * 86400000000 + x) / 86400000000 = d by omega]; exact hd)
 rw [k.1, k.2.1, k.2.2, ← hv] at R
 exact R
theorem sta_in {d : Int} (hd : Dy.dok d = true) (w : World) (hw : Cvl.Lens w) :
  Calls Tryz.prog 110 #[.agg #[vi ki 0, vi ki d]] w fun r' w' => r' = zr (.tuple #[.agg #[vi ki 0, vi ki (d * 86400000000)], vi ki 0]) ∧ Below w.heap.size w w' := by
 have R := Dy.start_any 0 d w hw
 have k := Dy.st_in (d := d) (u := 0) ⟨hd, by decide, by decide⟩ (by rw [show (d * 86400000000 + 0) / 86400000000 = d by omega]; exact hd)
 rw [k.1, k.2.1, k.2.2, Int.add_zero] at R
 exact R
theorem bg_any (f u y m q : Int) (f1 : 0 ≤ f) (f2 : f ≤ 12) (hq : Cv.Is (u / 86400000000) y m q) (hd : Dy.dok (u / 86400000000) = true) (w : World) (hL : Cvl.Lens w) (hO : OLens w) :
  Calls Tryz.prog 58 #[vi ki f, .agg #[vi ki 0, vi ki u]] w fun r' w' => r' = zr (.tuple #[.agg #[vi ki 0, vi ki (bgV f u y m)], vi ki (bgE f u y m)]) ∧ Below w.heap.size w w' := by
 have OF : ∀ w : World, Cvl.Lens w → _ := fun w hw => of_in hd w hw
 have hLL := Dy.lens_of hL
 by_cases h5 : f ≤ 5
 ·unfold bgV bgE
  rw [if_pos h5, if_pos h5]
  have u1 : 0 ≤ u % 86400000000 := by omega
  have u2 : u % 86400000000 < 86400000000 := by omega
  obtain rfl | rfl | rfl | rfl | rfl | rfl : f = 0 ∨ f = 1 ∨ f = 2 ∨ f = 3 ∨ f = 4 ∨ f = 5 := by omega
  ·exact bg_0 u _ _ _ _ u1 u2 OF (fun w hw => stm_in hd (by omega) (by omega) (by simp [opTab]; omega) w hw) w hO hLL
  ·exact bg_1 u _ _ _ _ u1 u2 OF (fun w hw => stm_in hd (by omega) (by omega) (by simp [opTab]; omega) w hw) w hO hLL
  ·exact bg_2 u _ _ _ _ u1 u2 OF (fun w hw => stm_in hd (by omega) (by omega) (by simp [opTab]; omega) w hw) w hO hLL
  ·exact bg_3 u _ _ _ _ u1 u2 OF (fun w hw => stm_in hd (by omega) (by omega) (by simp [opTab]; omega) w hw) w hO hLL
  ·exact bg_4 u _ _ _ _ u1 u2 OF (fun w hw => stm_in hd (by omega) (by omega) (by simp [opTab]; omega) w hw) w hO hLL
  ·exact bg_5 u _ _ _ _ u1 u2 OF (fun w hw => stm_in hd (by omega) (by omega) (by simp [opTab]; omega) w hw) w hO hLL
 ·have FD := fun w hw => fd_any f (u / 86400000000) y m q (by omega) f2 hq hd w hw
  unfold bgV bgE
  rw [if_neg h5, if_neg h5]
  unfold fdV fdE at FD
  generalize fdN f (u / 86400000000) y m = n at *
  by_cases hn : Dy.dok n = true
  ·rw [if_pos hn, if_pos hn] at FD ⊢
   have SA := fun w hw => sta_in (d := n) hn w hw
   obtain rfl | rfl | rfl | rfl | rfl | rfl | rfl : f = 6 ∨ f = 7 ∨ f = 8 ∨ f = 9 ∨ f = 10 ∨ f = 11 ∨ f = 12 := by omega
   ·exact bg_6 u _ _ n _ _ OF FD SA w hLL
   ·exact bg_7 u _ _ n _ _ OF FD SA w hLL
   ·exact bg_8 u _ _ n _ _ OF FD SA w hLL
   ·exact bg_9 u _ _ n _ _ OF FD SA w hLL
   ·exact bg_10 u _ _ n _ _ OF FD SA w hLL
   ·exact bg_11 u _ _ n _ _ OF FD SA w hLL
   ·exact bg_12 u _ _ n _ _ OF FD SA w hLL
  ·rw [if_neg hn, if_neg hn] at FD ⊢
   obtain rfl | rfl | rfl | rfl | rfl | rfl | rfl : f = 6 ∨ f = 7 ∨ f = 8 ∨ f = 9 ∨ f = 10 ∨ f = 11 ∨ f = 12 := by omega
   ·exact bg_6e u _ _ _ 10 (by decide) OF FD w hLL
   ·exact bg_7e u _ _ _ 10 (by decide) OF FD w hLL
   ·exact bg_8e u _ _ _ 10 (by decide) OF FD w hLL
   ·exact bg_9e u _ _ _ 10 (by decide) OF FD w hLL
   ·exact bg_10e u _ _ _ 10 (by decide) OF FD w hLL
   ·exact bg_11e u _ _ _ 10 (by decide) OF FD w hLL
   ·exact bg_12e u _ _ _ 10 (by decide) OF FD w hLL
def TruncIs (k i u a v e : Int) : Prop :=
 (Dy.sR i u = false ∧ a = 0 ∧ v = 0 ∧ e = 1) ∨ (Dy.sR i u = true ∧ k < 0 ∧ a = 0 ∧ v = 0 ∧ e = 23) ∨ (Dy.sR i u = true ∧ 0 ≤ k ∧ i ≠ 0 ∧ a = i ∧ v = u ∧ e = 0) ∨
 (Dy.sR i u = true ∧ 0 ≤ k ∧ k ≤ 12 ∧ i = 0 ∧ a = 0 ∧ ∃ y m q, Cv.Is (u / 86400000000) y m q ∧ v = bgV k u y m ∧ e = bgE k u y m)
theorem trunc_any (s : ByteArray) (hs : s.size ≤ maxLen) (i u a v e : Int) (h : TruncIs (fldN s 13) i u a v e) (u1 : -9223372036854775808 ≤ u) (u2 : u ≤ 9223372036854775807) (w : World) (hL : Cvl.Lens w) (hO : OLens w) :
  Calls Tryz.prog 24 #[.string s, .agg #[vi ki i, vi ki u]] w fun r' w' => r' = zr (.tuple #[.agg #[vi ki a, vi ki v], vi ki e]) ∧ Below w.heap.size w w' := by
 have hLL := Dy.lens_of hL
 rcases h with ⟨hr, rfl, rfl, rfl⟩ | ⟨hr, hk, rfl, rfl, rfl⟩ | ⟨hr, hk, hi, rfl, rfl, rfl⟩ | ⟨hr, hk, hk2, rfl, rfl, y, m, q, hq, rfl, rfl⟩
 ·exact tr_no s i u (fun w hw => rsR hr u1 u2 w hw) w hLL
 ·exact tr_name s i u _ (fun w hw => rsR hr u1 u2 w hw) (fun w => named_13 s hs _ rfl _ false rfl (by simp; omega) w) w hLL
 ·exact tr_ok s _ _ _ _ _ _ (fun w hw => rsR hr u1 u2 w hw) (fun w => named_13 s hs _ rfl _ true rfl (by simp; omega) w) w (fun W hb => bg_inf _ _ _ hi W) hLL
 ·have e : max (fldN s 13) 0 = fldN s 13 := by omega
  exact tr_ok s _ _ (fldN s 13) _ _ _ (fun w hw => rsR hr u1 u2 w hw) (fun w => named_13 s hs _ rfl _ true e.symm (by simp; omega) w) w (fun W hb => bg_any _ u y m q hk hk2 hq hr W (hLL.out _ hb) (hO.below hb)) hLL
theorem opr_yes {m d n : Int} (h : Sp.pR 0 m d n = true) (w : World) : Calls Tryz.prog 23 #[.agg #[vi ki 0, vi ki m, vi ki d, vi ki n]] w fun r' w' => r' = zr (.bool true) ∧ Below w.heap.size w w' := by
 have R := Sp.pr_any 0 m d n (by rcases Sp.pR_yes h with k | k <;> omega) (by rcases Sp.pR_yes h with k | k <;> omega) w
 rw [h] at R
 exact R
theorem oback_any (i t r : Int) (t1 : -9223372036854775808 ≤ t) (t2 : t ≤ 9223372036854775807) (r1 : -9223372036854775808 ≤ r) (r2 : r ≤ 9223372036854775807) (w : World) (hL : Cvl.Lens w) :
  Calls Tryz.prog 69 #[.agg #[vi ki i, vi ki t], vi ki r] w fun r' w' => r' = zr (.tuple #[.agg #[vi ki 0, vi ki (if Dy.dok ((t - r) / 86400000000) = true then t - r else 0)], vi ki (fdE ((t - r) / 86400000000))]) ∧ Below w.heap.size w w' := by
 have hLL := Dy.lens_of hL
 have SU := fun w => wsub_any t r t1 t2 r1 r2 w
 unfold fdE
 by_cases hs : -9223372036854775808 ≤ t - r ∧ t - r ≤ 9223372036854775807
 ·rw [smV_in hs.1 hs.2, smE_in hs.1 hs.2] at SU
  cases hd : Dy.dok ((t - r) / 86400000000)
  ·rw [if_neg (by decide), if_neg (by decide)]
   exact back_false i t r _ SU (fun w hw => rsR (i := 0) (u := t - r) hd hs.1 hs.2 w hw) w hLL
  ·rw [if_pos rfl, if_pos rfl]
   exact back_true i t r _ SU (fun w hw => rsR (i := 0) (u := t - r) hd hs.1 hs.2 w hw) w hLL
 ·have hn : ¬ Dy.dok ((t - r) / 86400000000) = true := fun q => by have := Dy.dok_yes q; omega
  rw [if_neg hn, if_neg hn]
  exact back_e i t r _ _ (by unfold smE; rw [if_neg hs]; decide) SU w
theorem lng_any {D U n : Int} (d1 : 0 ≤ D) (d2 : D ≤ 1000) (b1 : 0 ≤ U) (b2 : U ≤ 86400000000000) (hn : n = D * 86400000000 + U) (w : World) :
  Calls Tryz.prog 116 #[.agg #[vi ki 0, vi ki 0, vi ki D, vi ki U]] w fun r' w' => r' = zr (.tuple #[vi ki n, vi ki (if n = 0 then 11 else 0)]) ∧ Below w.heap.size w w' := by
 have SL := fun w => split_any U (by omega) (by omega) w
 have MU := fun w => mul_any (D + U / 86400000000) 86400000000 (by omega) (by omega) (by decide) (by decide) w
 rw [smV_in (by omega) (by omega), smE_in (by omega) (by omega)] at MU
 have AD := fun w => add_any ((D + U / 86400000000) * 86400000000) (U % 86400000000) (by omega) (by omega) (by omega) (by omega) w
 have e : (D + U / 86400000000) * 86400000000 + U % 86400000000 = n := by omega
 rw [smV_in (by omega) (by omega), smE_in (by omega) (by omega), e] at AD
 by_cases h0 : n = 0
 ·rw [if_pos h0]
  subst h0
  exact len_0 0 0 D U _ _ _ _ (by omega) (by omega) rfl SL MU AD w
 ·rw [if_neg h0]
  exact len_ok 0 0 D U _ _ _ _ (by omega) (by omega) (by omega) SL MU AD w
theorem bin_yes {D U t q n : Int} (d1 : 0 ≤ D) (d2 : D ≤ 1000) (b1 : 0 ≤ U) (b2 : U ≤ 86400000000000) (hn : n = D * 86400000000 + U) (h0 : 0 < n) (ht : Dy.dok (t / 86400000000) = true) (hq : Dy.dok (q / 86400000000) = true)
  (s1 : -9223372036854775808 ≤ t - q) (s2 : t - q ≤ 9223372036854775807) (w : World) (hL : Cvl.Lens w) :
  Calls Tryz.prog 72 #[.agg #[vi ki 0, vi ki 0, vi ki D, vi ki U], .agg #[vi ki 0, vi ki t], .agg #[vi ki 0, vi ki q]] w fun r' w' => r' = zr (.tuple #[.agg #[vi ki 0, vi ki (if Dy.dok ((t - (t - q) % n) / 86400000000) = true then t - (t - q) % n else 0)], vi ki (fdE ((t - (t - q) % n) / 86400000000))]) ∧ Below w.heap.size w w' := by
 have kt := Dy.dok_yes ht
 have kq := Dy.dok_yes hq
 have PR := fun w => opr_yes (m := 0) (d := D) (n := U) (by rw [Sp.pR_0]; simp [Sp.cnt]; omega) w
 have LE := fun w => lng_any d1 d2 b1 b2 hn w
 rw [if_neg (by omega)] at LE
 have SB := fun w => wsub_any t q (by omega) (by omega) (by omega) (by omega) w
 rw [smV_in s1 s2, smE_in s1 s2] at SB
 have MO := fun w => mod_in (t - q) n (by omega) (by omega) (by omega) w
 rw [Int.fmod_eq_emod_of_nonneg _ (by omega)] at MO
 have g1 := Int.emod_nonneg (t - q) (show n ≠ 0 by omega)
 have g2 := Int.emod_lt_of_pos (t - q) h0
 have BK := fun w hw => oback_any 0 t ((t - q) % n) (by omega) (by omega) (by omega) (by omega) w hw
 exact bin_ok D U t q n _ _ _ _ PR (fun w hw => rsR (i := 0) ht (by omega) (by omega) w hw) (fun w hw => rsR (i := 0) hq (by omega) (by omega) w hw) LE SB MO BK w (Dy.lens_of hL)
def LO (w : World) : Prop := Cvl.Lens w ∧ OLens w
theorem LO.of {w : World} (h : LO w) : Hid (∀ W : World, Below w.heap.size w W → LO W) := fun W hb => ⟨(Dy.lens_of h.1).out W hb, h.2.below hb⟩
theorem at20_run (y m d us v e V f : Int)
  (MK : Hid (∀ w : World, Calls Tryz.prog 67 #[vi ki y, vi ki m, vi ki d] w fun r' w' => r' = zr (.tuple #[.agg #[vi ki 0, vi ki v], vi ki e]) ∧ Below w.heap.size w w'))
  (SM : Hid (∀ w : World, Calls Tryz.prog 90 #[.agg #[vi ki 0, vi ki v], vi ki us] w fun r' w' => r' = zr (.tuple #[.agg #[vi ki 0, vi ki V], vi ki f]) ∧ Below w.heap.size w w'))
  (w : World) :
  Calls Tryz.prog 71 #[vi ki y, vi ki m, vi ki d, vi ki us] w fun r' w' => r' = zr (.agg #[vi ki 0, vi ki V]) ∧ Below w.heap.size w w' := by
 have K0 := bsn1 w [vi ki 0, vi ki 0] 36
 go_enter Tryz.func71, Tryz.ntmps71
 go_wp2_with fail
 refine (MK.out _).mono ?_
 rintro e W1 ⟨rfl, hb⟩
 have K1 := bsb K0 hb
 clear hb K0
 obtain ⟨c1_0_0, c1_0_1⟩ := (bo1 K1).c2
 have Mz1 := bsn K1 [vi ki 0, vi ki v] 111
 have lt1_0 := (bo1 K1).1
 go_upto_region 2 with fail
 refine bs_to Mz1 ?_
 clear c1_0_0 c1_0_1
 intro W2 K2
 clear Mz1 K1
 obtain ⟨c2_0_0, c2_0_1⟩ := (bo1 K2).c2
 obtain ⟨c2_1_0, c2_1_1⟩ := (bo2 K2).c2
 go_wp2_with fail
 refine (SM.out _).mono ?_
 rintro e W3 ⟨rfl, hb⟩
 have K3 := bsb K2 hb
 clear c2_0_0 c2_0_1 c2_1_0 c2_1_1
 clear hb K2
 obtain ⟨c3_0_0, c3_0_1⟩ := (bo1 K3).c2
 obtain ⟨c3_1_0, c3_1_1⟩ := (bo2 K3).c2
 have Mz3 := bsn K3 [vi ki 0, vi ki V] 36
 have lt3_0 := (bo1 K3).1
 have lt3_1 := (bo2 K3).1
 go_upto_region 3 with fail
 refine bs_to Mz3 ?_
 clear c3_0_0 c3_0_1 c3_1_0 c3_1_1
 intro W4 K4
 clear Mz3 K3
 obtain ⟨c4_0_0, c4_0_1⟩ := (bo1 K4).c2
 obtain ⟨c4_1_0, c4_1_1⟩ := (bo2 K4).c2
 obtain ⟨c4_2_0, c4_2_1⟩ := (bo3 K4).c2
 obtain ⟨z4_2_0, z4_2_1⟩ := (bo3 K4).f2
 have XF : Hid (Bx (W4.setCells (w.heap.size) 0 [vi ki 0, vi ki V]) (w.heap.size) [vi ki 0, vi ki V]) := (K4.out.at (w.heap.size) [vi ki 0, vi ki 0] (by simp)).setAll _ rfl
 have BF : Hid (Below w.heap.size w (W4.setCells (w.heap.size) 0 [vi ki 0, vi ki V])) := below_setCells (by omega) _ _ _ K4.out.1
 have y0 := XF.out.c 0 rfl
 have y1 := XF.out.c 1 rfl
 simp only [World.setCells, Nat.zero_add] at y0 y1
 clear XF
 go_wp2
 exact bodyPost_ret (v := .agg #[vi ki 0, vi ki V]) (by simp [results, Tryz.results71, go_sem, y0, y1]) rfl ⟨rfl, BF.out⟩
theorem at20_any (y m d us v : Int) (h1 : Dy.mkV y m d = v) (h2 : Dy.stI 0 v us = 0) (V : Int) (h3 : Dy.stV 0 v us = V) (w : World) :
  Calls Tryz.prog 71 #[vi ki y, vi ki m, vi ki d, vi ki us] w fun r w' => r = zr (.agg #[vi ki 0, vi ki V]) ∧ Below w.heap.size w w' := by
 have MK := fun w => Dy.rmake_any y m d w
 rw [h1] at MK
 have SM := fun w => Dy.rstamp_any 0 v us w
 rw [h2, h3] at SM
 exact at20_run y m d us v _ V _ MK SM w
theorem known20_run 
  (TR : Hid (∀ w : World, LO w → Calls Tryz.prog 24 #[.string ⟨#[119, 101, 101, 107]⟩, .agg #[vi ki 0, vi ki 765158400000005]] w fun r' w' => r' = zr (.tuple #[.agg #[vi ki 0, vi ki 764640000000000], vi ki 0]) ∧ Below w.heap.size w w'))
  (BI : Hid (∀ w : World, LO w → Calls Tryz.prog 72 #[.agg #[vi ki 0, vi ki 0, vi ki 0, vi ki 900000000], .agg #[vi ki 0, vi ki 765167820000000], .agg #[vi ki 0, vi ki 765158400000000]] w fun r' w' => r' = zr (.tuple #[.agg #[vi ki 0, vi ki 765167400000000], vi ki 0]) ∧ Below w.heap.size w w'))
  (E1 : Hid (∀ w : World, LO w → Calls Tryz.prog 73 #[.agg utL.toArray, .string ⟨#[99, 101, 110, 116, 117, 114, 121]⟩, .agg (v_dt 0 0).toArray] w fun r' w' => r' = zr (.tuple #[.agg #[vi ki 20, vi ki 0], vi ki 0]) ∧ Below w.heap.size w w'))
  (E2 : Hid (∀ w : World, LO w → Calls Tryz.prog 73 #[.agg utL.toArray, .string ⟨#[115, 101, 99, 111, 110, 100]⟩, .agg (v_sp 0 0 0 1500000).toArray] w fun r' w' => r' = zr (.tuple #[.agg #[vi ki 1500000, vi ki 6], vi ki 0]) ∧ Below w.heap.size w w'))
  (w : World) (hL : Hid (∀ W : World, Below w.heap.size w W → LO W)) :
  Calls Tryz.prog 29 #[] w fun r' w' => r' = zr (.bool true) ∧ Below w.heap.size w w' := by
 have AT1 : Hid (∀ w : World, Calls Tryz.prog 71 #[vi ki 2024, vi ki 3, vi ki 31, vi ki 5] w fun r w' => r = zr (.agg #[vi ki 0, vi ki 765158400000005]) ∧ Below w.heap.size w w') := fun w => at20_any 2024 3 31 5 8856 (by decide +kernel) (by decide +kernel) _ (by decide +kernel) w
 have AT2 : Hid (∀ w : World, Calls Tryz.prog 71 #[vi ki 2024, vi ki 3, vi ki 31, vi ki 9420000000] w fun r w' => r = zr (.agg #[vi ki 0, vi ki 765167820000000]) ∧ Below w.heap.size w w') := fun w => at20_any 2024 3 31 9420000000 8856 (by decide +kernel) (by decide +kernel) _ (by decide +kernel) w
 have AT3 : Hid (∀ w : World, Calls Tryz.prog 71 #[vi ki 2024, vi ki 3, vi ki 31, vi ki 0] w fun r w' => r = zr (.agg #[vi ki 0, vi ki 765158400000000]) ∧ Below w.heap.size w w') := fun w => at20_any 2024 3 31 0 8856 (by decide +kernel) (by decide +kernel) _ (by decide +kernel) w
 have AT4 : Hid (∀ w : World, Calls Tryz.prog 71 #[vi ki 2024, vi ki 3, vi ki 25, vi ki 0] w fun r w' => r = zr (.agg #[vi ki 0, vi ki 764640000000000]) ∧ Below w.heap.size w w') := fun w => at20_any 2024 3 25 0 8850 (by decide +kernel) (by decide +kernel) _ (by decide +kernel) w
 have AT5 : Hid (∀ w : World, Calls Tryz.prog 71 #[vi ki 2024, vi ki 3, vi ki 31, vi ki 9000000000] w fun r w' => r = zr (.agg #[vi ki 0, vi ki 765167400000000]) ∧ Below w.heap.size w w') := fun w => at20_any 2024 3 31 9000000000 8856 (by decide +kernel) (by decide +kernel) _ (by decide +kernel) w
 have UT : Hid (∀ w : World, Calls Tryz.prog 22 #[] w fun e w' => e = zr (.agg utL.toArray) ∧ Below w.heap.size w w') := utc_any
 have K0 : Hid (BS w [] w) := (BS.start w)
 go_enter Tryz.func29, Tryz.ntmps29
 go_wp2_with fail
 refine (AT1.out _).mono ?_
 rintro e W1 ⟨rfl, hb⟩
 have K1 := bsb K0 hb
 clear hb K0
 go_wp2_with fail
 refine (TR.out _ (hL.out _ K1.out.1)).mono ?_
 rintro e W2 ⟨rfl, hb⟩
 have K2 := bsb K1 hb
 clear hb K1
 have Mz2 := bsn K2 [vi ki 0, vi ki 764640000000000] 36
 go_upto_region 2 with fail
 refine bs_to Mz2 ?_
 intro W3 K3
 clear Mz2 K2
 obtain ⟨c3_0_0, c3_0_1⟩ := (bo1 K3).c2
 go_wp2_with fail
 refine (AT2.out _).mono ?_
 rintro e W4 ⟨rfl, hb⟩
 have K4 := bsb K3 hb
 clear c3_0_0 c3_0_1
 clear hb K3
 obtain ⟨c4_0_0, c4_0_1⟩ := (bo1 K4).c2
 go_wp2_with fail
 refine (AT3.out _).mono ?_
 rintro e W5 ⟨rfl, hb⟩
 have K5 := bsb K4 hb
 clear c4_0_0 c4_0_1
 clear hb K4
 obtain ⟨c5_0_0, c5_0_1⟩ := (bo1 K5).c2
 go_wp2_with fail
 refine (BI.out _ (hL.out _ K5.out.1)).mono ?_
 rintro e W6 ⟨rfl, hb⟩
 have K6 := bsb K5 hb
 clear c5_0_0 c5_0_1
 clear hb K5
 obtain ⟨c6_0_0, c6_0_1⟩ := (bo1 K6).c2
 have Mz6 := bsn K6 [vi ki 0, vi ki 765167400000000] 36
 have lt6_0 := (bo1 K6).1
 go_upto_region 3 with fail
 refine bs_to Mz6 ?_
 clear c6_0_0 c6_0_1
 intro W7 K7
 clear Mz6 K6
 obtain ⟨c7_0_0, c7_0_1⟩ := (bo1 K7).c2
 obtain ⟨c7_1_0, c7_1_1⟩ := (bo2 K7).c2
 go_wp2_with fail
 refine (UT.out _).mono ?_
 rintro e W8 ⟨rfl, hb⟩
 have K8 := bsb K7 hb
 clear c7_0_0 c7_0_1 c7_1_0 c7_1_1
 clear hb K7
 obtain ⟨c8_0_0, c8_0_1⟩ := (bo1 K8).c2
 obtain ⟨c8_1_0, c8_1_1⟩ := (bo2 K8).c2
 go_wp2_with fail
 refine (E1.out _ (hL.out _ K8.out.1)).mono ?_
 rintro e W9 ⟨rfl, hb⟩
 have K9 := bsb K8 hb
 clear c8_0_0 c8_0_1 c8_1_0 c8_1_1
 clear hb K8
 obtain ⟨c9_0_0, c9_0_1⟩ := (bo1 K9).c2
 obtain ⟨c9_1_0, c9_1_1⟩ := (bo2 K9).c2
 have Mz9 := bsn K9 [vi ki 20, vi ki 0] 122
 have lt9_0 := (bo1 K9).1
 have lt9_1 := (bo2 K9).1
 go_upto_region 4 with fail
 refine bs_to Mz9 ?_
 clear c9_0_0 c9_0_1 c9_1_0 c9_1_1
 intro W10 K10
 clear Mz9 K9
 obtain ⟨c10_0_0, c10_0_1⟩ := (bo1 K10).c2
 obtain ⟨c10_1_0, c10_1_1⟩ := (bo2 K10).c2
 obtain ⟨c10_2_0, c10_2_1⟩ := (bo3 K10).c2
 go_wp2_with fail
 refine (UT.out _).mono ?_
 rintro e W11 ⟨rfl, hb⟩
 have K11 := bsb K10 hb
 clear c10_0_0 c10_0_1 c10_1_0 c10_1_1 c10_2_0 c10_2_1
 clear hb K10
 obtain ⟨c11_0_0, c11_0_1⟩ := (bo1 K11).c2
 obtain ⟨c11_1_0, c11_1_1⟩ := (bo2 K11).c2
 obtain ⟨c11_2_0, c11_2_1⟩ := (bo3 K11).c2
 go_wp2_with fail
 refine (E2.out _ (hL.out _ K11.out.1)).mono ?_
 rintro e W12 ⟨rfl, hb⟩
 have K12 := bsb K11 hb
 clear c11_0_0 c11_0_1 c11_1_0 c11_1_1 c11_2_0 c11_2_1
 clear hb K11
 obtain ⟨c12_0_0, c12_0_1⟩ := (bo1 K12).c2
 obtain ⟨c12_1_0, c12_1_1⟩ := (bo2 K12).c2
 obtain ⟨c12_2_0, c12_2_1⟩ := (bo3 K12).c2
 have Mz12 := bsn K12 [vi ki 1500000, vi ki 6] 122
 have lt12_0 := (bo1 K12).1
 have lt12_1 := (bo2 K12).1
 have lt12_2 := (bo3 K12).1
 go_upto_region 5 with fail
 refine bs_to Mz12 ?_
 clear c12_0_0 c12_0_1 c12_1_0 c12_1_1 c12_2_0 c12_2_1
 intro W13 K13
 clear Mz12 K12
 obtain ⟨c13_0_0, c13_0_1⟩ := (bo1 K13).c2
 obtain ⟨c13_1_0, c13_1_1⟩ := (bo2 K13).c2
 obtain ⟨c13_2_0, c13_2_1⟩ := (bo3 K13).c2
 obtain ⟨c13_3_0, c13_3_1⟩ := (bo4 K13).c2
 go_wp2_with fail
 clear c13_0_0 c13_0_1 c13_1_0 c13_1_1 c13_2_0 c13_2_1 c13_3_0 c13_3_1
 refine wp_region_held_drew (S := BS w [(W12.heap.size, [vi ki 1500000, vi ki 6]), (W9.heap.size, [vi ki 20, vi ki 0]), (W6.heap.size, [vi ki 0, vi ki 765167400000000]), (W2.heap.size, [vi ki 0, vi ki 764640000000000])]) (by kernel_rfl) K13.out.drew (fun hHeld => ?_)
 refine tk (v := ?_) 0 ⟨some 35, _, _, _, _, none⟩ rfl ?_ ?_
 case refine_2 => (intro w9 hSw; obtain ⟨l0_0, l0_1⟩ := (hSw.at (W12.heap.size) [vi ki 1500000, vi ki 6] (by simp)).c2; obtain ⟨l1_0, l1_1⟩ := (hSw.at (W9.heap.size) [vi ki 20, vi ki 0] (by simp)).c2; obtain ⟨l2_0, l2_1⟩ := (hSw.at (W6.heap.size) [vi ki 0, vi ki 765167400000000] (by simp)).c2; obtain ⟨l3_0, l3_1⟩ := (hSw.at (W2.heap.size) [vi ki 0, vi ki 764640000000000] (by simp)).c2; clear hSw; go_simp; try with_reducible rfl)
 simp only [za, zb, zc, zd]
 refine rd 1 ⟨some 36, _, _, _, _, none⟩ rfl (fun K hK => ?_)
 go_simp
 refine (AT4.out _).mono ?_
 rintro e v1 ⟨rfl, hb1⟩
 refine hK.out _ _ (hHeld.below hb1) (fun hHeld => ?_)
 clear hK K hb1
 refine tks 2 ⟨some 37, _, _, _, _, none⟩ rfl ?_
 simp only [za, zb, zc, zd]
 refine tks 3 ⟨some 38, _, _, _, _, none⟩ rfl ?_
 simp only [za, zb, zc, zd]
 refine tks 4 ⟨some 39, _, _, _, _, some (3, true)⟩ rfl ?_
 simp only [za, zb, zc, zd]
 refine tks 5 ⟨some 40, _, _, _, _, some (3, true)⟩ rfl ?_
 simp only [za, zb, zc, zd]
 refine tks 6 ⟨some 41, _, _, _, _, none⟩ rfl ?_
 simp only [za, zb, zc, zd]
 refine tks 7 ⟨some 42, _, _, _, _, none⟩ rfl ?_
 simp only [za, zb, zc, zd]
 refine tk (v := ?_) 8 ⟨some 43, _, _, _, _, some (7, true)⟩ rfl ?_ ?_
 case refine_2 => (intro w9 hSw; obtain ⟨l0_0, l0_1⟩ := (hSw.at (W12.heap.size) [vi ki 1500000, vi ki 6] (by simp)).c2; obtain ⟨l1_0, l1_1⟩ := (hSw.at (W9.heap.size) [vi ki 20, vi ki 0] (by simp)).c2; obtain ⟨l2_0, l2_1⟩ := (hSw.at (W6.heap.size) [vi ki 0, vi ki 765167400000000] (by simp)).c2; obtain ⟨l3_0, l3_1⟩ := (hSw.at (W2.heap.size) [vi ki 0, vi ki 764640000000000] (by simp)).c2; clear hSw; go_simp; try with_reducible rfl)
 simp only [za, zb, zc, zd]
 refine rd 9 ⟨some 44, _, _, _, _, some (7, true)⟩ rfl (fun K hK => ?_)
 go_simp
 refine (AT5.out _).mono ?_
 rintro e v2 ⟨rfl, hb2⟩
 refine hK.out _ _ (hHeld.below hb2) (fun hHeld => ?_)
 clear hK K hb2
 refine tks 10 ⟨some 45, _, _, _, _, some (7, true)⟩ rfl ?_
 simp only [za, zb, zc, zd]
 refine tks 11 ⟨some 46, _, _, _, _, none⟩ rfl ?_
 simp only [za, zb, zc, zd]
 refine tks 12 ⟨some 47, _, _, _, _, none⟩ rfl ?_
 simp only [za, zb, zc, zd]
 refine tks 13 ⟨some 48, _, _, _, _, some (12, true)⟩ rfl ?_
 simp only [za, zb, zc, zd]
 refine tks 14 ⟨some 49, _, _, _, _, some (12, true)⟩ rfl ?_
 simp only [za, zb, zc, zd]
 refine tks 15 ⟨some 50, _, _, _, _, none⟩ rfl ?_
 simp only [za, zb, zc, zd]
 refine tks 16 ⟨some 51, _, _, _, _, none⟩ rfl ?_
 simp only [za, zb, zc, zd]
 refine tks 17 ⟨some 52, _, _, _, _, some (16, true)⟩ rfl ?_
 simp only [za, zb, zc, zd]
 refine tk (v := ?_) 18 ⟨some 53, _, _, _, _, some (16, true)⟩ rfl ?_ ?_
 case refine_2 => (intro w9 hSw; obtain ⟨l0_0, l0_1⟩ := (hSw.at (W12.heap.size) [vi ki 1500000, vi ki 6] (by simp)).c2; obtain ⟨l1_0, l1_1⟩ := (hSw.at (W9.heap.size) [vi ki 20, vi ki 0] (by simp)).c2; obtain ⟨l2_0, l2_1⟩ := (hSw.at (W6.heap.size) [vi ki 0, vi ki 765167400000000] (by simp)).c2; obtain ⟨l3_0, l3_1⟩ := (hSw.at (W2.heap.size) [vi ki 0, vi ki 764640000000000] (by simp)).c2; clear hSw; go_simp; try with_reducible rfl)
 simp only [za, zb, zc, zd]
 refine tks 19 ⟨some 54, _, _, _, _, some (16, true)⟩ rfl ?_
 simp only [za, zb, zc, zd]
 refine tks 20 ⟨some 55, _, _, _, _, none⟩ rfl ?_
 simp only [za, zb, zc, zd]
 refine tks 21 ⟨some 56, _, _, _, _, none⟩ rfl ?_
 simp only [za, zb, zc, zd]
 refine tks 22 ⟨some 57, _, _, _, _, some (21, true)⟩ rfl ?_
 simp only [za, zb, zc, zd]
 refine tk (v := ?_) 23 ⟨some 58, _, _, _, _, some (21, true)⟩ rfl ?_ ?_
 case refine_2 => (intro w9 hSw; obtain ⟨l0_0, l0_1⟩ := (hSw.at (W12.heap.size) [vi ki 1500000, vi ki 6] (by simp)).c2; obtain ⟨l1_0, l1_1⟩ := (hSw.at (W9.heap.size) [vi ki 20, vi ki 0] (by simp)).c2; obtain ⟨l2_0, l2_1⟩ := (hSw.at (W6.heap.size) [vi ki 0, vi ki 765167400000000] (by simp)).c2; obtain ⟨l3_0, l3_1⟩ := (hSw.at (W2.heap.size) [vi ki 0, vi ki 764640000000000] (by simp)).c2; clear hSw; go_simp; try with_reducible rfl)
 simp only [za, zb, zc, zd]
 refine tks 24 ⟨some 59, _, _, _, _, some (21, true)⟩ rfl ?_
 simp only [za, zb, zc, zd]
 refine tks 25 ⟨some 60, _, _, _, _, none⟩ rfl ?_
 simp only [za, zb, zc, zd]
 refine tks 26 ⟨some 61, _, _, _, _, none⟩ rfl ?_
 simp only [za, zb, zc, zd]
 refine tks 27 ⟨some 62, _, _, _, _, some (26, true)⟩ rfl ?_
 simp only [za, zb, zc, zd]
 refine tks 28 ⟨some 63, _, _, _, _, some (26, true)⟩ rfl ?_
 simp only [za, zb, zc, zd]
 refine tks 29 ⟨some 64, _, _, _, _, none⟩ rfl ?_
 simp only [za, zb, zc, zd]
 refine tks 30 ⟨some 65, _, _, _, _, none⟩ rfl ?_
 simp only [za, zb, zc, zd]
 refine tks 31 ⟨some 66, _, _, _, _, some (30, true)⟩ rfl ?_
 simp only [za, zb, zc, zd]
 refine tk (v := ?_) 32 ⟨some 67, _, _, _, _, some (30, true)⟩ rfl ?_ ?_
 case refine_2 => (intro w9 hSw; obtain ⟨l0_0, l0_1⟩ := (hSw.at (W12.heap.size) [vi ki 1500000, vi ki 6] (by simp)).c2; obtain ⟨l1_0, l1_1⟩ := (hSw.at (W9.heap.size) [vi ki 20, vi ki 0] (by simp)).c2; obtain ⟨l2_0, l2_1⟩ := (hSw.at (W6.heap.size) [vi ki 0, vi ki 765167400000000] (by simp)).c2; obtain ⟨l3_0, l3_1⟩ := (hSw.at (W2.heap.size) [vi ki 0, vi ki 764640000000000] (by simp)).c2; clear hSw; go_simp; try with_reducible rfl)
 simp only [za, zb, zc, zd]
 refine tks 33 ⟨some 68, _, _, _, _, some (30, true)⟩ rfl ?_
 simp only [za, zb, zc, zd]
 refine tks 34 ⟨some 69, _, _, _, _, none⟩ rfl ?_
 simp only [za, zb, zc, zd]
 refine tks 35 ⟨some 70, _, _, _, _, none⟩ rfl ?_
 simp only [za, zb, zc, zd]
 refine tks 36 ⟨some 71, _, _, _, _, some (35, true)⟩ rfl ?_
 simp only [za, zb, zc, zd]
 refine tk (v := ?_) 37 ⟨some 72, _, _, _, _, some (35, true)⟩ rfl ?_ ?_
 case refine_2 => (intro w9 hSw; obtain ⟨l0_0, l0_1⟩ := (hSw.at (W12.heap.size) [vi ki 1500000, vi ki 6] (by simp)).c2; obtain ⟨l1_0, l1_1⟩ := (hSw.at (W9.heap.size) [vi ki 20, vi ki 0] (by simp)).c2; obtain ⟨l2_0, l2_1⟩ := (hSw.at (W6.heap.size) [vi ki 0, vi ki 765167400000000] (by simp)).c2; obtain ⟨l3_0, l3_1⟩ := (hSw.at (W2.heap.size) [vi ki 0, vi ki 764640000000000] (by simp)).c2; clear hSw; go_simp; try with_reducible rfl)
 simp only [za, zb, zc, zd]
 refine tks 38 ⟨some 73, _, _, _, _, some (35, true)⟩ rfl ?_
 simp only [za, zb, zc, zd]
 refine tks 39 ⟨some 74, _, _, _, _, none⟩ rfl ?_
 simp only [za, zb, zc, zd]
 refine tks 40 ⟨some 75, _, _, _, _, none⟩ rfl ?_
 simp only [za, zb, zc, zd]
 refine tks 41 ⟨some 76, _, _, _, _, some (40, true)⟩ rfl ?_
 simp only [za, zb, zc, zd]
 refine tks 42 ⟨some 77, _, _, _, _, some (40, true)⟩ rfl ?_
 simp only [za, zb, zc, zd]
 refine tks 43 ⟨some 78, _, _, _, _, none⟩ rfl ?_
 simp only [za, zb, zc, zd]
 refine tks 44 ⟨some 0, _, _, _, _, none⟩ rfl ?_
 simp only [Act.put, List.setIfInBounds_toArray, List.set_cons_zero]
 refine wpAnyH_done (by kernel_rfl) ?_ _
 have HB : Hid (Below w.heap.size w _) := hHeld.1
 clear hHeld
 go_wp2
 go_ret
 exact ⟨rfl, HB.out⟩
theorem known20_any (w : World) (hL : LO w) : Calls Tryz.prog 29 #[] w fun r w' => r = zr (.bool true) ∧ Below w.heap.size w w' := by
 refine known20_run (fun w hw => ?_) (fun w hw => ?_) (fun w hw => ?_) (fun w hw => ?_) w (LO.of hL)
 ·refine trunc_any ⟨#[119, 101, 101, 107]⟩ (by decide) 0 765158400000005 0 764640000000000 0 ?_ (by decide) (by decide) w hw.1 hw.2
  have hk : fldN ⟨#[119, 101, 101, 107]⟩ 13 = 6 := by decide +kernel
  rw [hk]
  refine .inr (.inr (.inr ⟨by decide +kernel, by decide, by decide, rfl, rfl, 2024, 3, 31, ?_, by decide +kernel, by decide +kernel⟩))
  exact ⟨by decide, by decide, by decide, by decide +kernel, by decide +kernel⟩
 ·have R := bin_yes (D := 0) (U := 900000000) (t := 765167820000000) (q := 765158400000000) (n := 900000000) (by decide) (by decide) (by decide) (by decide) (by decide) (by decide) (by decide +kernel) (by decide +kernel) (by decide) (by decide) w hw.1
  rw [show (if Dy.dok ((765167820000000 - (765167820000000 - 765158400000000) % 900000000) / 86400000000) = true then 765167820000000 - (765167820000000 - 765158400000000) % 900000000 else (0 : Int)) = 765167400000000 by decide +kernel, show fdE ((765167820000000 - (765167820000000 - 765158400000000) % 900000000) / 86400000000) = 0 by decide +kernel] at R
  exact R
 ·have RV : ∀ w : World, Cvl.Lens w → _ := fun w hw => rv_dt 0 0 (fun w hw => by have R := Dy.right_any 0 0 w hw; rw [show Dy.dR 0 0 = true by decide +kernel] at R; exact R) w (Dy.lens_of hw)
  have NA := fun w => named_19 ⟨#[99, 101, 110, 116, 117, 114, 121]⟩ (by decide) 11 (by decide +kernel) 11 true (by decide) (by decide) w
  have GW := fun w => gw_all 11 5 (by decide) (by decide) (by decide) (by decide) (by decide) (by decide) w
  have hq : Cv.Is 0 2000 1 1 := ⟨by decide, by decide, by decide, by decide +kernel, by decide +kernel⟩
  have d0 : Dy.dok 0 = true := by decide +kernel
  have PA : ∀ w : World, Cvl.Lens w → _ := fun w hw => Dy.parts_any 0 0 2000 1 1 0 (.inr (.inr ⟨rfl, d0, hq, rfl⟩)) w hw
  have OD : ∀ w : World, Cvl.Lens w → _ := fun w hw => od_11 0 2000 1 1 20 PA (fun w => oy_11 w) w (Dy.lens_of hw)
  have OS : ∀ w : World, Cvl.Lens w → _ := fun w hw => os_11 0 0 0 20 (fun w hw => of_in (u := 0) d0 w hw) OD (fun w => whole_any 20 w) w (Dy.lens_of hw)
  exact ex_dt ⟨#[99, 101, 110, 116, 117, 114, 121]⟩ 0 0 11 20 0 0 RV NA GW (fun w hw => sta_in (d := 0) d0 w hw) OS w (Dy.lens_of hw.1)
 ·have RV := fun w => rv_sp 0 0 0 1500000 (fun w => opr_yes (m := 0) (d := 0) (n := 1500000) (by decide +kernel) w) w
  have NA := fun w => named_19 ⟨#[115, 101, 99, 111, 110, 100]⟩ (by decide) 2 (by decide +kernel) 2 true (by decide) (by decide) w
  have GW := fun w => gw_all 2 8 (by decide) (by decide) (by decide) (by decide) (by decide) (by decide) w
  have OS := fun w => osp_2 0 0 1500000 1500000 6 (fun w => ot_s 1500000 (by decide) (by decide) w) w
  exact ex_sp ⟨#[115, 101, 99, 111, 110, 100]⟩ 0 0 1500000 2 1500000 6 0 RV NA GW OS w (Dy.lens_of hw.1)
set_option maxRecDepth 100000
theorem cell5 : (Tryz.prog.cellTypes Tryz.prog.depth 34).map (fun ts => ts[5 % ts.length]?) = some (some 24) := by kernel_rfl
theorem table_place {w : World} {r : Reach} {b0 : Nat} {t : TbR} {sv : Value} (hv : Value.okWide Tryz.prog w r b0 34 (.agg (tbL t sv).toArray)) : ∀ a n c, sv = .slice (some a) n c → a.block < w.heap.size ∧ a.spot = none := by
 intro a n c hs
 subst hs
 simp only [Value.okWide, Tryz.underlying34] at hv
 obtain ⟨cs, h1, _, ts, hts, _, hc⟩ := hv
 cases h1
 obtain ⟨u, hu, hcell⟩ := hc 5 (.slice (some a) n c) rfl
 have h5 := cell5
 rw [hts] at h5
 simp only [Option.map_some, Option.some.injEq] at h5
 rw [h5] at hu
 cases hu
 simp only [Cell.okWide, Cell.ok, Tryz.underlying24] at hcell
 obtain ⟨_, _, _, h2, row, cells, h3, _⟩ := hcell
 refine ⟨?_, h2⟩
 rcases Nat.lt_or_ge a.block w.heap.size with h | h
 ·exact h
 ·unfold World.shape? at h3
  rw [Array.getElem?_eq_none h] at h3
  cases h3
theorem table_sized {H : Type} {ts : List TypeId} {ds : List (DataW H)} (h : (DataW.weightsEach Tryz.prog ts ds).all (· ≤ reachBytes) = true) {j : Nat} (ht : ts[j]? = some 34) {d : DataW H} (hd : ds[j]? = some d) {e0 e1 e2 e3 : DataW H} (hde : d = .agg [e0, e1, e2, e3]) {L : List TrR} (he : e2 = .nil ∧ L = [] ∨ ∃ es sp, e2 = .slice es sp ∧ es.length = L.length) : L.length * 40 ≤ 140737488355328 := by
 rcases he with ⟨_, rfl⟩ | ⟨es, sp, rfl, hl⟩
 ·simp
 ·subst hde
  have hm := List.all_eq_true.1 h _ (DataW.weights_mem_each ht hd ((es.length + sp.length) * Tryz.prog.bytesOf 23) (by
   simp only [DataW.weights, Tryz.underlying34]
   refine DataW.weights_mem_each (j := 2) (t := 24) (d := .slice es sp) rfl rfl _ ?_
   simp [DataW.weights, Tryz.underlying24]))
  rw [bytes30] at hm
  have := of_decide_eq_true hm
  unfold reachBytes at this
  rw [Nat.add_mul] at this
  omega
end Go.Proofs.YtklehbmghjcmaaaGreatDoor
namespace Go.Proofs.YtklehbmghjcmaaaGreatDoor.Fn
open Go.RowKit
theorem cum_lin (y m : Int) (h1 : 1 ≤ m) (h2 : m ≤ 12) : 152 * (m - 1) - 10 ≤ 5 * Cv.cum y m ∧ 5 * Cv.cum y m ≤ 152 * (m - 1) + 10 := by
 have l := Cv.lp_01 y
 rcases Cv.twelve h1 h2 with rfl | rfl | rfl | rfl | rfl | rfl | rfl | rfl | rfl | rfl | rfl | rfl <;> simp [Cv.cum] <;> omega
theorem day_bd {y m k d n : Int} (h : dyA m k d n) (hy : dyY y) : fst1 y m - 6 ≤ dyV y m k d n ∧ dyV y m k d n ≤ fst1 y m + 36 := by
 have l := Cv.len_01 y m h.2.1 h.2.2
 unfold dyV
 rw [if_pos h, if_pos hy]
 unfold dayN
 have b1 := bk_bd (fst1 y m + Cv.len y m - 1) d
 have b2 := bk_bd (fst1 y m + n - 1) d
 have b3 := bk_bd (fst1 y m + n - 1 + 7 - 1) d
 rcases h.1 with a | a | a
 ·rw [if_pos a.1]; omega
 ·rw [if_neg (by omega), if_pos a.1]; omega
 ·rw [if_neg (by omega), if_neg (by omega)]; split <;> omega
theorem inst_bd {d s k o v : Int} (s1 : 0 ≤ s) (s2 : s ≤ 86400) (o1 : -50400 ≤ o) (o2 : o ≤ 50400) (v1 : 0 ≤ v) (v2 : v ≤ 7200) :
  (d + 10957) * 86400 - 57600 ≤ inst d s k o v ∧ inst d s k o v ≤ (d + 10957) * 86400 + 136800 := by
 unfold inst
 split
 ·omega
 ·split <;> omega
theorem tr_bd {off : Int} {h g : Hf} {y : Int} (hh : okH h = true) (hg : okH g = true) (o1 : -50400 ≤ off) (o2 : off ≤ 50400) (hy : dyY y) :
  (Cv.S y + Cv.cum y h.m - 6 + 10957) * 86400 - 57600 ≤ (trOf off h g y).t ∧ (trOf off h g y).t ≤ (Cv.S y + Cv.cum y h.m + 36 + 10957) * 86400 + 136800 := by
 obtain ⟨a1, a2, a3, a4⟩ := okH_of hh
 obtain ⟨b1, b2, b3, b4⟩ := okH_of hg
 obtain ⟨s1, s2, _⟩ := a2
 have d := day_bd (y := y) a1 hy
 have i := inst_bd (d := dyV y h.m h.k h.d h.n) (k := h.z) s1 s2 o1 o2 b3 b4
 unfold fst1 at d
 show _ ≤ inst (dyV y h.m h.k h.d h.n) h.s h.z off g.v ∧ inst (dyV y h.m h.k h.d h.n) h.s h.z off g.v ≤ _
 omega
theorem far_of {m n : Int} (h : far m n = true) : (m + 2 ≤ n ∧ n ≤ m + 10) ∨ (n + 2 ≤ m ∧ m ≤ n + 10) := by
 have := of_decide_eq_true h
 split at this <;> omega
def lo (f : Ft) : Hf := if f.A.m < f.B.m then f.A else f.B
def hi (f : Ft) : Hf := if f.A.m < f.B.m then f.B else f.A
structure LH (f : Ft) : Prop where
 l : okH (lo f) = true
 h : okH (hi f) = true
 o1 : -50400 ≤ f.off
 o2 : f.off ≤ 50400
 a : (lo f).m + 2 ≤ (hi f).m
 b : (hi f).m ≤ (lo f).m + 10
 m1 : 1 ≤ (lo f).m
 m2 : (hi f).m ≤ 12
theorem lh_of {f : Ft} (hf : okF f = true) : LH f := by
 obtain ⟨o1, o2, hA, hB, hr, _⟩ := okF_of hf
 have a := (okH_of hA).1.2
 have b := (okH_of hB).1.2
 have r := far_of hr
 by_cases h : f.A.m < f.B.m
 ·have e1 : lo f = f.A := if_pos h
  have e2 : hi f = f.B := if_pos h
  exact ⟨by rw [e1]; exact hA, by rw [e2]; exact hB, o1, o2, by rw [e1, e2]; omega, by rw [e1, e2]; omega, by rw [e1]; omega, by rw [e2]; omega⟩
 ·have e1 : lo f = f.B := if_neg h
  have e2 : hi f = f.A := if_neg h
  exact ⟨by rw [e1]; exact hB, by rw [e2]; exact hA, o1, o2, by rw [e1, e2]; omega, by rw [e1, e2]; omega, by rw [e1]; omega, by rw [e2]; omega⟩
theorem lo_hi {f : Ft} (L : LH f) {y : Int} (hy : dyY y) : (trOf f.off (lo f) (hi f) y).t < (trOf f.off (hi f) (lo f) y).t ∧ (trOf f.off (hi f) (lo f) y).t < (trOf f.off (lo f) (hi f) y).t + 400 * 86400 := by
 have b1 := tr_bd (y := y) L.l L.h L.o1 L.o2 hy
 have b2 := tr_bd (y := y) L.h L.l L.o1 L.o2 hy
 have c1 := cum_lin y (lo f).m L.m1 (by have := L.a; have := L.m2; omega)
 have c2 := cum_lin y (hi f).m (by have := L.a; have := L.m1; omega) L.m2
 have := L.a
 have := L.b
 omega
theorem hi_lo {f : Ft} (L : LH f) {y : Int} (hy : dyY y) (hy' : dyY (y + 1)) : (trOf f.off (hi f) (lo f) y).t < (trOf f.off (lo f) (hi f) (y + 1)).t ∧ (trOf f.off (lo f) (hi f) (y + 1)).t < (trOf f.off (hi f) (lo f) y).t + 400 * 86400 := by
 have b1 := tr_bd (y := y + 1) L.l L.h L.o1 L.o2 hy'
 have b2 := tr_bd (y := y) L.h L.l L.o1 L.o2 hy
 have c1 := cum_lin (y + 1) (lo f).m L.m1 (by have := L.a; have := L.m2; omega)
 have c2 := cum_lin y (hi f).m (by have := L.a; have := L.m1; omega) L.m2
 have s := Cv.S_succ y
 have l := Cv.lp_01 y
 have := L.a
 have := L.b
 omega
theorem sh_is {f : Ft} (L : LH f) {y : Int} (hy : dyY y) : sh1 f y = trOf f.off (lo f) (hi f) y ∧ sh2 f y = trOf f.off (hi f) (lo f) y := by
 have h := (lo_hi L hy).1
 by_cases q : f.A.m < f.B.m
 ·have e1 : lo f = f.A := if_pos q
  have e2 : hi f = f.B := if_pos q
  rw [e1, e2] at h ⊢
  unfold sh1 sh2
  rw [if_neg (by omega), if_neg (by omega)]
  exact ⟨rfl, rfl⟩
 ·have e1 : lo f = f.B := if_neg q
  have e2 : hi f = f.A := if_neg q
  rw [e1, e2] at h ⊢
  unfold sh1 sh2
  rw [if_pos h, if_pos h]
  exact ⟨rfl, rfl⟩
def gs (f : Ft) (j : Int) : Tr := if j % 2 = 0 then sh1 f (j / 2) else sh2 f (j / 2)
theorem gs_0 (f : Ft) (y : Int) : gs f (2 * y) = sh1 f y := by unfold gs; rw [if_pos (by omega), show 2 * y / 2 = y by omega]
theorem gs_1 (f : Ft) (y : Int) : gs f (2 * y + 1) = sh2 f y := by unfold gs; rw [if_neg (by omega), show (2 * y + 1) / 2 = y by omega]
theorem shK_gs (f : Ft) (y0 : Int) (k : Nat) : shK f y0 k = gs f (2 * y0 + k) := by
 unfold shK gs
 by_cases h : k % 2 = 0
 ·rw [if_pos h, if_pos (by omega), show (2 * y0 + (k : Int)) / 2 = y0 + ((k / 2 : Nat) : Int) by omega]
 ·rw [if_neg h, if_neg (by omega), show (2 * y0 + (k : Int)) / 2 = y0 + ((k / 2 : Nat) : Int) by omega]
def inG (j : Int) : Prop := -9434 ≤ j ∧ j ≤ 588562
theorem gs_step {f : Ft} (L : LH f) {j : Int} (h : inG j) : (gs f j).t < (gs f (j + 1)).t ∧ (gs f (j + 1)).t < (gs f j).t + 400 * 86400 := by
 unfold inG at h
 obtain ⟨y, hy | hy⟩ : ∃ y, j = 2 * y ∨ j = 2 * y + 1 := ⟨j / 2, by omega⟩
 ·subst hy
  rw [gs_0, gs_1]
  have q : dyY y := by unfold dyY; omega
  rw [(sh_is L q).1, (sh_is L q).2]
  exact lo_hi L q
 ·subst hy
  rw [show 2 * y + 1 + 1 = 2 * (y + 1) by omega, gs_0, gs_1]
  have q : dyY y := by unfold dyY; omega
  have q' : dyY (y + 1) := by unfold dyY; omega
  rw [(sh_is L q).2, (sh_is L q').1]
  exact hi_lo L q q'
theorem gs_mono {f : Ft} (L : LH f) (i : Int) (h : -9434 ≤ i) : ∀ n : Nat, i + n ≤ 588562 → (gs f i).t < (gs f (i + n + 1)).t
 | 0, hn => by have := (gs_step L (j := i) ⟨h, by omega⟩).1; simpa using this
 | n + 1, hn => by
  have a := gs_mono L i h n (by omega)
  have b := (gs_step L (j := i + n + 1) ⟨by omega, by omega⟩).1
  rw [show i + ((n + 1 : Nat) : Int) + 1 = i + n + 1 + 1 by omega]
  omega
theorem gs_lt {f : Ft} (L : LH f) {i j : Int} (hi : -9434 ≤ i) (hij : i < j) (hj : j ≤ 588563) : (gs f i).t < (gs f j).t := by
 have := gs_mono L i hi (j - i - 1).toNat (by omega)
 rwa [show i + ((j - i - 1).toNat : Int) + 1 = j by omega] at this
def St (f : Ft) (t j : Int) : Prop := -9434 ≤ j ∧ j ≤ 588562 ∧ (gs f j).t ≤ t ∧ t < (gs f (j + 1)).t
theorem St.one {f : Ft} (L : LH f) {t i j : Int} (a : St f t i) (b : St f t j) : i = j := by
 obtain ⟨a1, a2, a3, a4⟩ := a
 obtain ⟨b1, b2, b3, b4⟩ := b
 rcases Int.lt_trichotomy i j with h | h | h
 ·exfalso
  have : (gs f (i + 1)).t ≤ (gs f j).t := by
   by_cases e : i + 1 = j
   ·rw [e]; exact Int.le_refl _
   ·have := gs_lt L (i := i + 1) (j := j) (by omega) (by omega) (by omega); omega
  omega
 ·exact h
 ·exfalso
  have : (gs f (j + 1)).t ≤ (gs f i).t := by
   by_cases e : j + 1 = i
   ·rw [e]; exact Int.le_refl _
   ·have := gs_lt L (i := j + 1) (j := i) (by omega) (by omega) (by omega); omega
  omega
theorem ends {f : Ft} (L : LH f) {t y : Int} (hy : YAt t y) (y1 : -4714 ≤ y) (y2 : y ≤ 294278) : (gs f (2 * (y - 1))).t ≤ t ∧ t < (gs f (2 * (y - 1) + 5)).t := by
 obtain ⟨hc, a, b⟩ : Cvl.can (t / 86400 - 10957) = true ∧ Cv.S y ≤ t / 86400 - 10957 ∧ t / 86400 - 10957 < Cv.S (y + 1) := by
  rcases hy with h | ⟨_, _, h⟩ | ⟨_, _, h⟩
  ·exact h
  ·omega
  ·omega
 have q0 : dyY (y - 1) := by unfold dyY; omega
 have q1 : dyY (y + 1) := by unfold dyY; omega
 have s := Cv.S_succ (y - 1)
 rw [show y - 1 + 1 = y by omega] at s
 have l := Cv.lp_01 (y - 1)
 have := L.a
 have := L.b
 have := L.m1
 have := L.m2
 constructor
 ·rw [gs_0, (sh_is L q0).1]
  have b1 := tr_bd (y := y - 1) L.l L.h L.o1 L.o2 q0
  have c1 := cum_lin (y - 1) (lo f).m L.m1 (by omega)
  omega
 ·rw [show 2 * (y - 1) + 5 = 2 * (y + 1) + 1 by omega, gs_1, (sh_is L q1).2]
  have b2 := tr_bd (y := y + 1) L.h L.l L.o1 L.o2 q1
  have c2 := cum_lin (y + 1) (hi f).m (by omega) L.m2
  omega
theorem findK {f : Ft} (L : LH f) {t y : Int} (hy : YAt t y) (y1 : -4714 ≤ y) (y2 : y ≤ 294278) :
  ∃ K : Nat, 1 ≤ K ∧ K < 6 ∧ t < (shK f (y - 1) K).t ∧ (∀ k, k < K → (shK f (y - 1) k).t ≤ t) ∧ St f t (2 * (y - 1) + K - 1) := by
 obtain ⟨e0, e5⟩ := ends L hy y1 y2
 have key : ∀ n : Nat, n ≤ 5 → (∃ K : Nat, 1 ≤ K ∧ K ≤ n ∧ t < (shK f (y - 1) K).t ∧ (∀ k, k < K → (shK f (y - 1) k).t ≤ t)) ∨ (∀ k, k ≤ n → (shK f (y - 1) k).t ≤ t) := by
  intro n
  induction n with
  | zero => exact fun _ => .inr (fun k hk => by obtain rfl : k = 0 := (by omega); rw [shK_gs]; simpa using e0)
  | succ n ih =>
   intro hn
   rcases ih (by omega) with ⟨K, a, b, c, d⟩ | h
   ·exact .inl ⟨K, a, by omega, c, d⟩
   ·by_cases q : t < (shK f (y - 1) (n + 1)).t
    ·exact .inl ⟨n + 1, by omega, Nat.le_refl _, q, fun k hk => h k (by omega)⟩
    ·exact .inr (fun k hk => by
      by_cases e : k = n + 1
      ·rw [e]; omega
      ·exact h k (by omega))
 rcases key 5 (Nat.le_refl _) with ⟨K, a, b, c, d⟩ | h
 ·refine ⟨K, a, by omega, c, d, by omega, by omega, ?_, ?_⟩
  ·have := d (K - 1) (by omega)
   rw [shK_gs, show 2 * (y - 1) + ((K - 1 : Nat) : Int) = 2 * (y - 1) + K - 1 by omega] at this
   exact this
  ·rw [shK_gs] at c
   rw [show 2 * (y - 1) + (K : Int) - 1 + 1 = 2 * (y - 1) + K by omega]
   exact c
 ·have := h 5 (Nat.le_refl _)
  rw [shK_gs] at this
  have e : 2 * (y - 1) + ((5 : Nat) : Int) = 2 * (y - 1) + 5 := rfl
  rw [e] at this
  omega
theorem stand_ok (f : Ft) (t y : Int) (hf : okF f = true) (hy : YAt t y) (y1 : -4714 ≤ y) (y2 : y ≤ 294278) (t1 : -9223372036854775808 ≤ t) (t2 : t ≤ 9223372036854775807) :
  ∃ j, St f t j ∧ (∀ w : World, Cvl.Lens w → Clk.Tab w → Calls Tryz.prog 125 #[.agg #[.bool f.h, vi ki f.fr, vi ki f.off, vi ki f.A.m, vi ki f.A.k, vi ki f.A.d, vi ki f.A.n, vi ki f.A.s, .int .u8 f.A.z, vi ki f.A.v, .string f.A.t, vi ki f.B.m, vi ki f.B.k, vi ki f.B.d, vi ki f.B.n, vi ki f.B.s, .int .u8 f.B.z, vi ki f.B.v, .string f.B.t], vi ki t] w fun e w' => e = zr (.tuple #[.agg #[vi ki (gs f j).t, vi ki (gs f j).o, .bool (gs f j).d, .string (gs f j).a], vi ki 0]) ∧ Below w.heap.size w w') ∧
   (∀ w : World, Cvl.Lens w → Clk.Tab w → Calls Tryz.prog 206 #[.agg #[.bool f.h, vi ki f.fr, vi ki f.off, vi ki f.A.m, vi ki f.A.k, vi ki f.A.d, vi ki f.A.n, vi ki f.A.s, .int .u8 f.A.z, vi ki f.A.v, .string f.A.t, vi ki f.B.m, vi ki f.B.k, vi ki f.B.d, vi ki f.B.n, vi ki f.B.s, .int .u8 f.B.z, vi ki f.B.v, .string f.B.t], vi ki t] w fun e w' => e = zr (.tuple #[.agg #[vi ki (gs f (j + 1)).t, vi ki (gs f (j + 1)).o, .bool (gs f (j + 1)).d, .string (gs f (j + 1)).a], vi ki 0]) ∧ Below w.heap.size w w') := by
 obtain ⟨K, k1, k2, hK, hlo, hS⟩ := findK (lh_of hf) hy y1 y2
 refine ⟨_, hS, ?_⟩
 have A : ∀ w : World, Cvl.Lens w → Clk.Tab w → Calls Tryz.prog 168 #[.agg #[.bool f.h, vi ki f.fr, vi ki f.off, vi ki f.A.m, vi ki f.A.k, vi ki f.A.d, vi ki f.A.n, vi ki f.A.s, .int .u8 f.A.z, vi ki f.A.v, .string f.A.t, vi ki f.B.m, vi ki f.B.k, vi ki f.B.d, vi ki f.B.n, vi ki f.B.s, .int .u8 f.B.z, vi ki f.B.v, .string f.B.t], vi ki t] w fun e w' => e = zr (.tuple #[.agg (tL (gs f (2 * (y - 1) + K - 1))).toArray, .agg (tL (gs f (2 * (y - 1) + K - 1 + 1))).toArray, vi ki 0]) ∧ Below w.heap.size w w' := fun w hL hT => by
  have R := around_ok f t y K hf hy y1 y2 t1 t2 k1 k2 hK hlo w hL hT
  have e1 : shK f (y - 1) (K - 1) = gs f (2 * (y - 1) + K - 1) := by rw [shK_gs]; congr 1; omega
  have e2 : shK f (y - 1) K = gs f (2 * (y - 1) + K - 1 + 1) := by rw [shK_gs]; congr 1; omega
  rw [e1, e2] at R
  exact R
 exact ⟨fun w hL hT => at_run f t _ _ 0 A w hL hT, fun w hL hT => next_run f t _ _ 0 A w hL hT⟩
def fK : Ft := ⟨true, 0, 3600, ⟨3, 1, 0, 0, 3600, 117, 3600, ⟨#[67, 69, 83, 84]⟩⟩, ⟨10, 1, 0, 0, 3600, 117, 0, ⟨#[67, 69, 84]⟩⟩⟩
theorem sK1 : (sh1 fK 2024).t = 1711846800 ∧ (sh1 fK 2024).o = 7200 ∧ (sh1 fK 2024).d = true ∧ (sh1 fK 2024).a = ⟨#[67, 69, 83, 84]⟩ := by decide +kernel
theorem sK2 : (sh2 fK 2024).t = 1729990800 ∧ (sh2 fK 2024).o = 3600 ∧ (sh2 fK 2024).d = false ∧ (sh2 fK 2024).a = ⟨#[67, 69, 84]⟩ := by decide +kernel
def trP : Tr := ⟨1711846800, 7200, true, ⟨#[67, 69, 83, 84]⟩⟩
def trQ : Tr := ⟨1729990800, 3600, false, ⟨#[67, 69, 84]⟩⟩
theorem tr_ext {x y : Tr} (h : x.t = y.t ∧ x.o = y.o ∧ x.d = y.d ∧ x.a = y.a) : x = y := by
 obtain ⟨a, b, c, d⟩ := x
 obtain ⟨a', b', c', d'⟩ := y
 obtain ⟨h1, h2, h3, h4⟩ := h
 subst h1 h2 h3 h4
 rfl
theorem eK1 : sh1 fK 2024 = trP := tr_ext sK1
theorem eK2 : sh2 fK 2024 = trQ := tr_ext sK2
theorem stK : St fK 1711846800 4048 := by
 refine ⟨by omega, by omega, ?_, ?_⟩
 ·rw [show (4048 : Int) = 2 * 2024 by omega, gs_0, eK1]; decide
 ·rw [show (4048 : Int) + 1 = 2 * 2024 + 1 by omega, gs_1, eK2]; decide
theorem bx_of_own {W : World} {b : Nat} {e : TypeId} {sz n : Nat} {v : Value} {xs : List Value} (h : W.ownsRow b e sz v n xs) (hn : 0 < n) : ∃ g cap, v = .slice (some ⟨g, 0, none⟩) n cap ∧ b ≤ g ∧ Bx W g xs ∧ n ≤ cap := by
 rcases h.2 with ⟨_, h0⟩ | ⟨g, cap, cur, rfl, hb, hg, hc, _, _, ht⟩
 ·omega
 ·refine ⟨g, cap, rfl, hb, ⟨(Array.getElem?_eq_some_iff.1 hg).1, fun i u hu => ⟨?_, by simp [World.frozen?, hg]⟩⟩, hc⟩
  simp only [World.cell?, hg]
  rw [← ht] at hu
  have hi : i < n * sz := by
   have := (List.getElem?_eq_some_iff.1 hu).1
   simp at this
   omega
  rw [List.getElem?_take_of_lt hi] at hu
  simpa using hu
end Go.Proofs.YtklehbmghjcmaaaGreatDoor.Fn
