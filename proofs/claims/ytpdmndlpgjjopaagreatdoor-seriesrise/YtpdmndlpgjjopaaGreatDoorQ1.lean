import Derived.Test.YtpdmndlpgjjopaaGreatDoorQz
import Derived.Test.YtpdmndlpgjjopaaGreatDoorQ0
import Derived.Shelf.Abstract
import Derived.Deep.Cut
import Derived.Deep.DeepCutAuto
import Derived.Deep.CutRange
import Derived.Laws.MakeOwn
import Derived.Laws.AppendOwn
import Derived.Laws.OwnMore
import Derived.Deep.LoopGhost
import Derived.Deep.RegionHeld3
open Go.Value renaming int → vi
open Go.IntKind renaming i64 → ki
open List renaming setIfInBounds_toArray → zb, set_cons_zero → zc, set_cons_succ → zd
open Go.Act renaming put → za
open Go.Ending renaming returned → zr
set_option maxRecDepth 100000
set_option maxHeartbeats 16000000
set_option linter.unusedVariables false
namespace Go.Proofs.YtpdmndlpgjjopaaGreatDoor.Dy
open Go.RowKit
theorem rmake_bad (y m d v e : Int) (he : e ≠ 0)
  (D : Hid (∀ w : World, Calls Tryz.prog 65 #[vi ki y, vi ki m, vi ki d] w fun r' w' => r' = zr (.tuple #[vi ki v, vi ki e]) ∧ w' = w))
  (w : World) :
  Calls Tryz.prog 41 #[vi ki y, vi ki m, vi ki d] w fun r' w' => r' = zr (.tuple #[.agg #[vi ki 0, vi ki 0], vi ki 10]) ∧ Below w.heap.size w w' := by
 have e1 : (e != 0) = true := bne_iff_ne.2 he
 have K0 := bsn1 w [vi ki 0, vi ki 0] 95
 go_enter Tryz.func41, Tryz.ntmps41
 go_wp2_with fail
 refine (D.out _).mono ?_
 rintro e W1 ⟨rfl, rfl⟩
 go_wp2
 exact bodyPost_ret (v := .tuple #[.agg #[vi ki 0, vi ki 0], vi ki 10]) (by simp [results, Tryz.results41, go_sem]) rfl ⟨rfl, (by repeat' (first | assumption | exact Below.refl _ _ | exact Nat.le_refl _ | refine Below.alloc ?_ ?_ _ | (simp; done) | (simp; omega) | omega))⟩
theorem rmake_true (y m d v : Int)
  (D : Hid (∀ w : World, Calls Tryz.prog 65 #[vi ki y, vi ki m, vi ki d] w fun r' w' => r' = zr (.tuple #[vi ki v, vi ki 0]) ∧ w' = w))
  (C : Hid (∀ w : World, Calls Tryz.prog 49 #[vi ki v] w fun r' w' => r' = zr (.bool true) ∧ w' = w))
  (w : World) :
  Calls Tryz.prog 41 #[vi ki y, vi ki m, vi ki d] w fun r' w' => r' = zr (.tuple #[.agg #[vi ki 0, vi ki v], vi ki 0]) ∧ Below w.heap.size w w' := by
 have K0 := bsn1 w [vi ki 0, vi ki 0] 95
 go_enter Tryz.func41, Tryz.ntmps41
 go_wp2_with fail
 refine (D.out _).mono ?_
 rintro e W1 ⟨rfl, rfl⟩
 go_wp2_with fail
 refine (C.out _).mono ?_
 rintro e W2 ⟨rfl, rfl⟩
 go_wp2
 exact bodyPost_ret (v := .tuple #[.agg #[vi ki 0, vi ki v], vi ki 0]) (by simp [results, Tryz.results41, go_sem]) rfl ⟨rfl, (by repeat' (first | assumption | exact Below.refl _ _ | exact Nat.le_refl _ | refine Below.alloc ?_ ?_ _ | (simp; done) | (simp; omega) | omega))⟩
theorem rmake_false (y m d v : Int)
  (D : Hid (∀ w : World, Calls Tryz.prog 65 #[vi ki y, vi ki m, vi ki d] w fun r' w' => r' = zr (.tuple #[vi ki v, vi ki 0]) ∧ w' = w))
  (C : Hid (∀ w : World, Calls Tryz.prog 49 #[vi ki v] w fun r' w' => r' = zr (.bool false) ∧ w' = w))
  (w : World) :
  Calls Tryz.prog 41 #[vi ki y, vi ki m, vi ki d] w fun r' w' => r' = zr (.tuple #[.agg #[vi ki 0, vi ki 0], vi ki 10]) ∧ Below w.heap.size w w' := by
 have K0 := bsn1 w [vi ki 0, vi ki 0] 95
 go_enter Tryz.func41, Tryz.ntmps41
 go_wp2_with fail
 refine (D.out _).mono ?_
 rintro e W1 ⟨rfl, rfl⟩
 go_wp2_with fail
 refine (C.out _).mono ?_
 rintro e W2 ⟨rfl, rfl⟩
 go_wp2
 exact bodyPost_ret (v := .tuple #[.agg #[vi ki 0, vi ki 0], vi ki 10]) (by simp [results, Tryz.results41, go_sem]) rfl ⟨rfl, (by repeat' (first | assumption | exact Below.refl _ _ | exact Nat.le_refl _ | refine Below.alloc ?_ ?_ _ | (simp; done) | (simp; omega) | omega))⟩
theorem mvd_no (i d n : Int)
  (R : Hid (∀ w : World, Cvl.Lens w → Calls Tryz.prog 117 #[.agg #[vi ki i, vi ki d]] w fun r' w' => r' = zr (.bool false) ∧ Below w.heap.size w w'))
  (w : World) (hL : Hid (∀ W : World, Below w.heap.size w W → Cvl.Lens W)) :
  Calls Tryz.prog 114 #[.agg #[vi ki i, vi ki d], .func (.func 116) #[vi ki n] #[]] w fun r' w' => r' = zr (.tuple #[.agg #[vi ki 0, vi ki 0], vi ki 1]) ∧ Below w.heap.size w w' := by
 have K0 := bsn2 w [vi ki i, vi ki d] 95 [vi ki 0, vi ki 0] 95
 go_enter Tryz.func114, Tryz.ntmps114
 go_wp2_with fail
 refine (R.out _ (hL.out _ K0.out.1)).mono ?_
 rintro e W1 ⟨rfl, hb⟩
 have K1 := bsb K0 hb
 clear hb K0
 obtain ⟨c1_0_0, c1_0_1⟩ := (bo1 K1).c2
 obtain ⟨z1_0_0, z1_0_1⟩ := (bo1 K1).f2
 obtain ⟨c1_1_0, c1_1_1⟩ := (bo2 K1).c2
 have XF : Hid (Bx (W1.setCells (w.heap.size + 1) 0 [vi ki 0, vi ki 0]) (w.heap.size + 1) [vi ki 0, vi ki 0]) := (K1.out.at (w.heap.size + 1) [vi ki 0, vi ki 0] (by simp)).setAll _ rfl
 have BF : Hid (Below w.heap.size w (W1.setCells (w.heap.size + 1) 0 [vi ki 0, vi ki 0])) := below_setCells (by omega) _ _ _ K1.out.1
 have y0 := XF.out.c 0 rfl
 have y1 := XF.out.c 1 rfl
 simp only [World.setCells, Nat.zero_add] at y0 y1
 clear XF
 go_wp2
 exact bodyPost_ret (v := .tuple #[.agg #[vi ki 0, vi ki 0], vi ki 1]) (by simp [results, Tryz.results114, go_sem, y0, y1]) rfl ⟨rfl, BF.out⟩
theorem mvd_inf (i d n : Int) (hi : i ≠ 0)
  (R : Hid (∀ w : World, Cvl.Lens w → Calls Tryz.prog 117 #[.agg #[vi ki i, vi ki d]] w fun r' w' => r' = zr (.bool true) ∧ Below w.heap.size w w'))
  (w : World) (hL : Hid (∀ W : World, Below w.heap.size w W → Cvl.Lens W)) :
  Calls Tryz.prog 114 #[.agg #[vi ki i, vi ki d], .func (.func 116) #[vi ki n] #[]] w fun r' w' => r' = zr (.tuple #[.agg #[vi ki i, vi ki d], vi ki 0]) ∧ Below w.heap.size w w' := by
 have i1 : (i != 0) = true := bne_iff_ne.2 hi
 have K0 := bsn2 w [vi ki i, vi ki d] 95 [vi ki 0, vi ki 0] 95
 go_enter Tryz.func114, Tryz.ntmps114
 go_wp2_with fail
 refine (R.out _ (hL.out _ K0.out.1)).mono ?_
 rintro e W1 ⟨rfl, hb⟩
 have K1 := bsb K0 hb
 clear hb K0
 obtain ⟨c1_0_0, c1_0_1⟩ := (bo1 K1).c2
 obtain ⟨z1_0_0, z1_0_1⟩ := (bo1 K1).f2
 obtain ⟨c1_1_0, c1_1_1⟩ := (bo2 K1).c2
 have XF : Hid (Bx (W1.setCells (w.heap.size + 1) 0 [vi ki i, vi ki d]) (w.heap.size + 1) [vi ki i, vi ki d]) := (K1.out.at (w.heap.size + 1) [vi ki 0, vi ki 0] (by simp)).setAll _ rfl
 have BF : Hid (Below w.heap.size w (W1.setCells (w.heap.size + 1) 0 [vi ki i, vi ki d])) := below_setCells (by omega) _ _ _ K1.out.1
 have y0 := XF.out.c 0 rfl
 have y1 := XF.out.c 1 rfl
 simp only [World.setCells, Nat.zero_add] at y0 y1
 clear XF
 go_wp2
 exact bodyPost_ret (v := .tuple #[.agg #[vi ki i, vi ki d], vi ki 0]) (by simp [results, Tryz.results114, go_sem, y0, y1]) rfl ⟨rfl, BF.out⟩
theorem mvd_yes (d n v e V E : Int)
  (R : Hid (∀ w : World, Cvl.Lens w → Calls Tryz.prog 117 #[.agg #[vi ki 0, vi ki d]] w fun r' w' => r' = zr (.bool true) ∧ Below w.heap.size w w'))
  (F : Hid (∀ w : World, Calls Tryz.prog 116 #[vi ki n, vi ki d] w fun r' w' => r' = zr (.tuple #[vi ki v, vi ki e]) ∧ w' = w))
  (O : Hid (∀ w : World, Cvl.Lens w → Calls Tryz.prog 126 #[vi ki v, vi ki e] w fun r' w' => r' = zr (.tuple #[.agg #[vi ki 0, vi ki V], vi ki E]) ∧ Below w.heap.size w w'))
  (w : World) (hL : Hid (∀ W : World, Below w.heap.size w W → Cvl.Lens W)) :
  Calls Tryz.prog 114 #[.agg #[vi ki 0, vi ki d], .func (.func 116) #[vi ki n] #[]] w fun r' w' => r' = zr (.tuple #[.agg #[vi ki 0, vi ki V], vi ki E]) ∧ Below w.heap.size w w' := by
 have K0 := bsn2 w [vi ki 0, vi ki d] 95 [vi ki 0, vi ki 0] 95
 go_enter Tryz.func114, Tryz.ntmps114
 go_wp2_with fail
 refine (R.out _ (hL.out _ K0.out.1)).mono ?_
 rintro e W1 ⟨rfl, hb⟩
 have K1 := bsb K0 hb
 clear hb K0
 obtain ⟨c1_0_0, c1_0_1⟩ := (bo1 K1).c2
 obtain ⟨z1_0_0, z1_0_1⟩ := (bo1 K1).f2
 obtain ⟨c1_1_0, c1_1_1⟩ := (bo2 K1).c2
 go_wp2_with fail
 refine (F.out _).mono ?_
 rintro e W2 ⟨rfl, hw⟩
 rw [hw]
 clear hw W2
 go_wp2_with fail
 refine (O.out _ (hL.out _ K1.out.1)).mono ?_
 rintro e W3 ⟨rfl, hb⟩
 have K3 := bsb K1 hb
 clear c1_0_0 c1_0_1 z1_0_0 z1_0_1 c1_1_0 c1_1_1
 clear hb K1
 obtain ⟨c3_0_0, c3_0_1⟩ := (bo1 K3).c2
 obtain ⟨z3_0_0, z3_0_1⟩ := (bo1 K3).f2
 obtain ⟨c3_1_0, c3_1_1⟩ := (bo2 K3).c2
 have XF : Hid (Bx (W3.setCells (w.heap.size + 1) 0 [vi ki 0, vi ki V]) (w.heap.size + 1) [vi ki 0, vi ki V]) := (K3.out.at (w.heap.size + 1) [vi ki 0, vi ki 0] (by simp)).setAll _ rfl
 have BF : Hid (Below w.heap.size w (W3.setCells (w.heap.size + 1) 0 [vi ki 0, vi ki V])) := below_setCells (by omega) _ _ _ K3.out.1
 have y0 := XF.out.c 0 rfl
 have y1 := XF.out.c 1 rfl
 simp only [World.setCells, Nat.zero_add] at y0 y1
 clear XF
 go_wp2
 exact bodyPost_ret (v := .tuple #[.agg #[vi ki 0, vi ki V], vi ki E]) (by simp [results, Tryz.results114, go_sem, y0, y1]) rfl ⟨rfl, BF.out⟩
theorem dadd_run (i d n a b E : Int)
  (M : Hid (∀ w : World, Cvl.Lens w → Calls Tryz.prog 114 #[.agg #[vi ki i, vi ki d], .func (.func 116) #[vi ki n] #[]] w fun r' w' => r' = zr (.tuple #[.agg #[vi ki a, vi ki b], vi ki E]) ∧ Below w.heap.size w w'))
  (w : World) (hL : Hid (∀ W : World, Below w.heap.size w W → Cvl.Lens W)) :
  Calls Tryz.prog 100 #[.agg #[vi ki i, vi ki d], vi ki n] w fun r' w' => r' = zr (.tuple #[.agg #[vi ki a, vi ki b], vi ki E]) ∧ Below w.heap.size w w' := by
 have K0 := bsn2 w [vi ki i, vi ki d] 95 [vi ki 0, vi ki 0] 95
 go_enter Tryz.func100, Tryz.ntmps100
 go_wp2_with fail
 refine (M.out _ (hL.out _ K0.out.1)).mono ?_
 rintro e W1 ⟨rfl, hb⟩
 have K1 := bsb K0 hb
 clear hb K0
 obtain ⟨c1_0_0, c1_0_1⟩ := (bo1 K1).c2
 obtain ⟨z1_0_0, z1_0_1⟩ := (bo1 K1).f2
 obtain ⟨c1_1_0, c1_1_1⟩ := (bo2 K1).c2
 have XF : Hid (Bx (W1.setCells (w.heap.size + 1) 0 [vi ki a, vi ki b]) (w.heap.size + 1) [vi ki a, vi ki b]) := (K1.out.at (w.heap.size + 1) [vi ki 0, vi ki 0] (by simp)).setAll _ rfl
 have BF : Hid (Below w.heap.size w (W1.setCells (w.heap.size + 1) 0 [vi ki a, vi ki b])) := below_setCells (by omega) _ _ _ K1.out.1
 have y0 := XF.out.c 0 rfl
 have y1 := XF.out.c 1 rfl
 simp only [World.setCells, Nat.zero_add] at y0 y1
 clear XF
 go_wp2
 exact bodyPost_ret (v := .tuple #[.agg #[vi ki a, vi ki b], vi ki E]) (by simp [results, Tryz.results100, go_sem, y0, y1]) rfl ⟨rfl, BF.out⟩
theorem mvm_no (i d n : Int)
  (R : Hid (∀ w : World, Cvl.Lens w → Calls Tryz.prog 117 #[.agg #[vi ki i, vi ki d]] w fun r' w' => r' = zr (.bool false) ∧ Below w.heap.size w w'))
  (w : World) (hL : Hid (∀ W : World, Below w.heap.size w W → Cvl.Lens W)) :
  Calls Tryz.prog 114 #[.agg #[vi ki i, vi ki d], .func (.func 115) #[vi ki n] #[]] w fun r' w' => r' = zr (.tuple #[.agg #[vi ki 0, vi ki 0], vi ki 1]) ∧ Below w.heap.size w w' := by
 have K0 := bsn2 w [vi ki i, vi ki d] 95 [vi ki 0, vi ki 0] 95
 go_enter Tryz.func114, Tryz.ntmps114
 go_wp2_with fail
 refine (R.out _ (hL.out _ K0.out.1)).mono ?_
 rintro e W1 ⟨rfl, hb⟩
 have K1 := bsb K0 hb
 clear hb K0
 obtain ⟨c1_0_0, c1_0_1⟩ := (bo1 K1).c2
 obtain ⟨z1_0_0, z1_0_1⟩ := (bo1 K1).f2
 obtain ⟨c1_1_0, c1_1_1⟩ := (bo2 K1).c2
 have XF : Hid (Bx (W1.setCells (w.heap.size + 1) 0 [vi ki 0, vi ki 0]) (w.heap.size + 1) [vi ki 0, vi ki 0]) := (K1.out.at (w.heap.size + 1) [vi ki 0, vi ki 0] (by simp)).setAll _ rfl
 have BF : Hid (Below w.heap.size w (W1.setCells (w.heap.size + 1) 0 [vi ki 0, vi ki 0])) := below_setCells (by omega) _ _ _ K1.out.1
 have y0 := XF.out.c 0 rfl
 have y1 := XF.out.c 1 rfl
 simp only [World.setCells, Nat.zero_add] at y0 y1
 clear XF
 go_wp2
 exact bodyPost_ret (v := .tuple #[.agg #[vi ki 0, vi ki 0], vi ki 1]) (by simp [results, Tryz.results114, go_sem, y0, y1]) rfl ⟨rfl, BF.out⟩
theorem mvm_inf (i d n : Int) (hi : i ≠ 0)
  (R : Hid (∀ w : World, Cvl.Lens w → Calls Tryz.prog 117 #[.agg #[vi ki i, vi ki d]] w fun r' w' => r' = zr (.bool true) ∧ Below w.heap.size w w'))
  (w : World) (hL : Hid (∀ W : World, Below w.heap.size w W → Cvl.Lens W)) :
  Calls Tryz.prog 114 #[.agg #[vi ki i, vi ki d], .func (.func 115) #[vi ki n] #[]] w fun r' w' => r' = zr (.tuple #[.agg #[vi ki i, vi ki d], vi ki 0]) ∧ Below w.heap.size w w' := by
 have i1 : (i != 0) = true := bne_iff_ne.2 hi
 have K0 := bsn2 w [vi ki i, vi ki d] 95 [vi ki 0, vi ki 0] 95
 go_enter Tryz.func114, Tryz.ntmps114
 go_wp2_with fail
 refine (R.out _ (hL.out _ K0.out.1)).mono ?_
 rintro e W1 ⟨rfl, hb⟩
 have K1 := bsb K0 hb
 clear hb K0
 obtain ⟨c1_0_0, c1_0_1⟩ := (bo1 K1).c2
 obtain ⟨z1_0_0, z1_0_1⟩ := (bo1 K1).f2
 obtain ⟨c1_1_0, c1_1_1⟩ := (bo2 K1).c2
 have XF : Hid (Bx (W1.setCells (w.heap.size + 1) 0 [vi ki i, vi ki d]) (w.heap.size + 1) [vi ki i, vi ki d]) := (K1.out.at (w.heap.size + 1) [vi ki 0, vi ki 0] (by simp)).setAll _ rfl
 have BF : Hid (Below w.heap.size w (W1.setCells (w.heap.size + 1) 0 [vi ki i, vi ki d])) := below_setCells (by omega) _ _ _ K1.out.1
 have y0 := XF.out.c 0 rfl
 have y1 := XF.out.c 1 rfl
 simp only [World.setCells, Nat.zero_add] at y0 y1
 clear XF
 go_wp2
 exact bodyPost_ret (v := .tuple #[.agg #[vi ki i, vi ki d], vi ki 0]) (by simp [results, Tryz.results114, go_sem, y0, y1]) rfl ⟨rfl, BF.out⟩
theorem mvm_yes (d n v e V E : Int)
  (R : Hid (∀ w : World, Cvl.Lens w → Calls Tryz.prog 117 #[.agg #[vi ki 0, vi ki d]] w fun r' w' => r' = zr (.bool true) ∧ Below w.heap.size w w'))
  (F : Hid (∀ w : World, Cvl.Lens w → Calls Tryz.prog 115 #[vi ki n, vi ki d] w fun r' w' => r' = zr (.tuple #[vi ki v, vi ki e]) ∧ w' = w))
  (O : Hid (∀ w : World, Cvl.Lens w → Calls Tryz.prog 126 #[vi ki v, vi ki e] w fun r' w' => r' = zr (.tuple #[.agg #[vi ki 0, vi ki V], vi ki E]) ∧ Below w.heap.size w w'))
  (w : World) (hL : Hid (∀ W : World, Below w.heap.size w W → Cvl.Lens W)) :
  Calls Tryz.prog 114 #[.agg #[vi ki 0, vi ki d], .func (.func 115) #[vi ki n] #[]] w fun r' w' => r' = zr (.tuple #[.agg #[vi ki 0, vi ki V], vi ki E]) ∧ Below w.heap.size w w' := by
 have K0 := bsn2 w [vi ki 0, vi ki d] 95 [vi ki 0, vi ki 0] 95
 go_enter Tryz.func114, Tryz.ntmps114
 go_wp2_with fail
 refine (R.out _ (hL.out _ K0.out.1)).mono ?_
 rintro e W1 ⟨rfl, hb⟩
 have K1 := bsb K0 hb
 clear hb K0
 obtain ⟨c1_0_0, c1_0_1⟩ := (bo1 K1).c2
 obtain ⟨z1_0_0, z1_0_1⟩ := (bo1 K1).f2
 obtain ⟨c1_1_0, c1_1_1⟩ := (bo2 K1).c2
 go_wp2_with fail
 refine (F.out _ (hL.out _ K1.out.1)).mono ?_
 rintro e W2 ⟨rfl, hw⟩
 rw [hw]
 clear hw W2
 go_wp2_with fail
 refine (O.out _ (hL.out _ K1.out.1)).mono ?_
 rintro e W3 ⟨rfl, hb⟩
 have K3 := bsb K1 hb
 clear c1_0_0 c1_0_1 z1_0_0 z1_0_1 c1_1_0 c1_1_1
 clear hb K1
 obtain ⟨c3_0_0, c3_0_1⟩ := (bo1 K3).c2
 obtain ⟨z3_0_0, z3_0_1⟩ := (bo1 K3).f2
 obtain ⟨c3_1_0, c3_1_1⟩ := (bo2 K3).c2
 have XF : Hid (Bx (W3.setCells (w.heap.size + 1) 0 [vi ki 0, vi ki V]) (w.heap.size + 1) [vi ki 0, vi ki V]) := (K3.out.at (w.heap.size + 1) [vi ki 0, vi ki 0] (by simp)).setAll _ rfl
 have BF : Hid (Below w.heap.size w (W3.setCells (w.heap.size + 1) 0 [vi ki 0, vi ki V])) := below_setCells (by omega) _ _ _ K3.out.1
 have y0 := XF.out.c 0 rfl
 have y1 := XF.out.c 1 rfl
 simp only [World.setCells, Nat.zero_add] at y0 y1
 clear XF
 go_wp2
 exact bodyPost_ret (v := .tuple #[.agg #[vi ki 0, vi ki V], vi ki E]) (by simp [results, Tryz.results114, go_sem, y0, y1]) rfl ⟨rfl, BF.out⟩
theorem dshift_run (i d n a b E : Int)
  (M : Hid (∀ w : World, Cvl.Lens w → Calls Tryz.prog 114 #[.agg #[vi ki i, vi ki d], .func (.func 115) #[vi ki n] #[]] w fun r' w' => r' = zr (.tuple #[.agg #[vi ki a, vi ki b], vi ki E]) ∧ Below w.heap.size w w'))
  (w : World) (hL : Hid (∀ W : World, Below w.heap.size w W → Cvl.Lens W)) :
  Calls Tryz.prog 99 #[.agg #[vi ki i, vi ki d], vi ki n] w fun r' w' => r' = zr (.tuple #[.agg #[vi ki a, vi ki b], vi ki E]) ∧ Below w.heap.size w w' := by
 have K0 := bsn2 w [vi ki i, vi ki d] 95 [vi ki 0, vi ki 0] 95
 go_enter Tryz.func99, Tryz.ntmps99
 go_wp2_with fail
 refine (M.out _ (hL.out _ K0.out.1)).mono ?_
 rintro e W1 ⟨rfl, hb⟩
 have K1 := bsb K0 hb
 clear hb K0
 obtain ⟨c1_0_0, c1_0_1⟩ := (bo1 K1).c2
 obtain ⟨z1_0_0, z1_0_1⟩ := (bo1 K1).f2
 obtain ⟨c1_1_0, c1_1_1⟩ := (bo2 K1).c2
 have XF : Hid (Bx (W1.setCells (w.heap.size + 1) 0 [vi ki a, vi ki b]) (w.heap.size + 1) [vi ki a, vi ki b]) := (K1.out.at (w.heap.size + 1) [vi ki 0, vi ki 0] (by simp)).setAll _ rfl
 have BF : Hid (Below w.heap.size w (W1.setCells (w.heap.size + 1) 0 [vi ki a, vi ki b])) := below_setCells (by omega) _ _ _ K1.out.1
 have y0 := XF.out.c 0 rfl
 have y1 := XF.out.c 1 rfl
 simp only [World.setCells, Nat.zero_add] at y0 y1
 clear XF
 go_wp2
 exact bodyPost_ret (v := .tuple #[.agg #[vi ki a, vi ki b], vi ki E]) (by simp [results, Tryz.results99, go_sem, y0, y1]) rfl ⟨rfl, BF.out⟩
def ordV (i j a b : Int) : Int := if i < j ∨ i = j ∧ a < b then -1 else if j < i ∨ b < a then 1 else 0
theorem order_1 (i j a b : Int) (h : i < j)
  (w : World) :
  Calls Tryz.prog 26 #[vi ki i, vi ki j, vi ki a, vi ki b] w fun r' w' => r' = zr (vi ki (-1)) ∧ w' = w := by
 go_enter Tryz.func26, Tryz.ntmps26
 go_wp2
 go_ret
 exact ⟨rfl, rfl⟩
theorem order_2 (i j a b : Int) (h : i = j) (g : a < b)
  (w : World) :
  Calls Tryz.prog 26 #[vi ki i, vi ki j, vi ki a, vi ki b] w fun r' w' => r' = zr (vi ki (-1)) ∧ w' = w := by
 subst h
 go_enter Tryz.func26, Tryz.ntmps26
 go_wp2
 go_ret
 exact ⟨rfl, rfl⟩
theorem order_3 (i j a b : Int) (h : j < i)
  (w : World) :
  Calls Tryz.prog 26 #[vi ki i, vi ki j, vi ki a, vi ki b] w fun r' w' => r' = zr (vi ki (1)) ∧ w' = w := by
 have h1 : ¬ i < j := by omega
 have h2 : (i == j) = false := by simp; omega
 go_enter Tryz.func26, Tryz.ntmps26
 go_wp2
 go_ret
 exact ⟨rfl, rfl⟩
theorem order_4 (i j a b : Int) (h : i = j) (g : b < a)
  (w : World) :
  Calls Tryz.prog 26 #[vi ki i, vi ki j, vi ki a, vi ki b] w fun r' w' => r' = zr (vi ki (1)) ∧ w' = w := by
 subst h
 have g1 : ¬ a < b := by omega
 go_enter Tryz.func26, Tryz.ntmps26
 go_wp2
 go_ret
 exact ⟨rfl, rfl⟩
theorem order_5 (i j a b : Int) (h : i = j) (g : a = b)
  (w : World) :
  Calls Tryz.prog 26 #[vi ki i, vi ki j, vi ki a, vi ki b] w fun r' w' => r' = zr (vi ki (0)) ∧ w' = w := by
 subst h
 subst g
 go_enter Tryz.func26, Tryz.ntmps26
 go_wp2
 go_ret
 exact ⟨rfl, rfl⟩
theorem order_any (i j a b : Int) (w : World) : Calls Tryz.prog 26 #[vi ki i, vi ki j, vi ki a, vi ki b] w fun r w' => r = zr (vi ki (ordV i j a b)) ∧ w' = w := by
 unfold ordV
 by_cases h : i < j
 ·rw [if_pos (.inl h)]; exact order_1 i j a b h w
 ·by_cases g : i = j
  ·by_cases k : a < b
   ·rw [if_pos (.inr ⟨g, k⟩)]; exact order_2 i j a b g k w
   ·rw [if_neg (by omega)]
    by_cases l : b < a
    ·rw [if_pos (.inr l)]; exact order_4 i j a b g l w
    ·rw [if_neg (by omega)]; exact order_5 i j a b g (by omega) w
  ·rw [if_neg (by omega), if_pos (by omega)]; exact order_3 i j a b (by omega) w
theorem scmp_no1 (i a j b : Int)
  (X : Hid (∀ w : World, Cvl.Lens w → Calls Tryz.prog 17 #[.agg #[vi ki i, vi ki a]] w fun r' w' => r' = zr (.bool false) ∧ Below w.heap.size w w'))
  (w : World) (hL : Hid (∀ W : World, Below w.heap.size w W → Cvl.Lens W)) :
  Calls Tryz.prog 62 #[.agg #[vi ki i, vi ki a], .agg #[vi ki j, vi ki b]] w fun r' w' => r' = zr (vi ki 0) ∧ Below w.heap.size w w' := by
 have K0 := bsn2 w [vi ki i, vi ki a] 36 [vi ki j, vi ki b] 36
 go_enter Tryz.func62, Tryz.ntmps62
 go_wp2_with fail
 refine (X.out _ (hL.out _ K0.out.1)).mono ?_
 rintro e W1 ⟨rfl, hb⟩
 have K1 := bsb K0 hb
 clear hb K0
 obtain ⟨c1_0_0, c1_0_1⟩ := (bo1 K1).c2
 obtain ⟨c1_1_0, c1_1_1⟩ := (bo2 K1).c2
 go_wp2
 go_ret
 exact ⟨rfl, K1.out.1⟩
theorem scmp_no2 (i a j b : Int)
  (X : Hid (∀ w : World, Cvl.Lens w → Calls Tryz.prog 17 #[.agg #[vi ki i, vi ki a]] w fun r' w' => r' = zr (.bool true) ∧ Below w.heap.size w w'))
  (Y : Hid (∀ w : World, Cvl.Lens w → Calls Tryz.prog 17 #[.agg #[vi ki j, vi ki b]] w fun r' w' => r' = zr (.bool false) ∧ Below w.heap.size w w'))
  (w : World) (hL : Hid (∀ W : World, Below w.heap.size w W → Cvl.Lens W)) :
  Calls Tryz.prog 62 #[.agg #[vi ki i, vi ki a], .agg #[vi ki j, vi ki b]] w fun r' w' => r' = zr (vi ki 0) ∧ Below w.heap.size w w' := by
 have K0 := bsn2 w [vi ki i, vi ki a] 36 [vi ki j, vi ki b] 36
 go_enter Tryz.func62, Tryz.ntmps62
 go_wp2_with fail
 refine (X.out _ (hL.out _ K0.out.1)).mono ?_
 rintro e W1 ⟨rfl, hb⟩
 have K1 := bsb K0 hb
 clear hb K0
 obtain ⟨c1_0_0, c1_0_1⟩ := (bo1 K1).c2
 obtain ⟨c1_1_0, c1_1_1⟩ := (bo2 K1).c2
 go_wp2_with fail
 refine (Y.out _ (hL.out _ K1.out.1)).mono ?_
 rintro e W2 ⟨rfl, hb⟩
 have K2 := bsb K1 hb
 clear c1_0_0 c1_0_1 c1_1_0 c1_1_1
 clear hb K1
 obtain ⟨c2_0_0, c2_0_1⟩ := (bo1 K2).c2
 obtain ⟨c2_1_0, c2_1_1⟩ := (bo2 K2).c2
 go_wp2
 go_ret
 exact ⟨rfl, K2.out.1⟩
theorem scmp_1 (i a j b : Int) (h : i < j)
  (X : Hid (∀ w : World, Cvl.Lens w → Calls Tryz.prog 17 #[.agg #[vi ki i, vi ki a]] w fun r' w' => r' = zr (.bool true) ∧ Below w.heap.size w w'))
  (Y : Hid (∀ w : World, Cvl.Lens w → Calls Tryz.prog 17 #[.agg #[vi ki j, vi ki b]] w fun r' w' => r' = zr (.bool true) ∧ Below w.heap.size w w'))
  (w : World) (hL : Hid (∀ W : World, Below w.heap.size w W → Cvl.Lens W)) :
  Calls Tryz.prog 62 #[.agg #[vi ki i, vi ki a], .agg #[vi ki j, vi ki b]] w fun r' w' => r' = zr (vi ki (-1)) ∧ Below w.heap.size w w' := by
 have h2 : (i == j) = false := by simp; omega
 have K0 := bsn2 w [vi ki i, vi ki a] 36 [vi ki j, vi ki b] 36
 go_enter Tryz.func62, Tryz.ntmps62
 go_wp2_with fail
 refine (X.out _ (hL.out _ K0.out.1)).mono ?_
 rintro e W1 ⟨rfl, hb⟩
 have K1 := bsb K0 hb
 clear hb K0
 obtain ⟨c1_0_0, c1_0_1⟩ := (bo1 K1).c2
 obtain ⟨c1_1_0, c1_1_1⟩ := (bo2 K1).c2
 go_wp2_with fail
 refine (Y.out _ (hL.out _ K1.out.1)).mono ?_
 rintro e W2 ⟨rfl, hb⟩
 have K2 := bsb K1 hb
 clear c1_0_0 c1_0_1 c1_1_0 c1_1_1
 clear hb K1
 obtain ⟨c2_0_0, c2_0_1⟩ := (bo1 K2).c2
 obtain ⟨c2_1_0, c2_1_1⟩ := (bo2 K2).c2
 go_wp2
 go_ret
 exact ⟨rfl, K2.out.1⟩
theorem scmp_2 (i a b : Int) (g : a < b)
  (X : Hid (∀ w : World, Cvl.Lens w → Calls Tryz.prog 17 #[.agg #[vi ki i, vi ki a]] w fun r' w' => r' = zr (.bool true) ∧ Below w.heap.size w w'))
  (Y : Hid (∀ w : World, Cvl.Lens w → Calls Tryz.prog 17 #[.agg #[vi ki i, vi ki b]] w fun r' w' => r' = zr (.bool true) ∧ Below w.heap.size w w'))
  (w : World) (hL : Hid (∀ W : World, Below w.heap.size w W → Cvl.Lens W)) :
  Calls Tryz.prog 62 #[.agg #[vi ki i, vi ki a], .agg #[vi ki i, vi ki b]] w fun r' w' => r' = zr (vi ki (-1)) ∧ Below w.heap.size w w' := by
 have h2 : (a == b) = false := by simp; omega
 have K0 := bsn2 w [vi ki i, vi ki a] 36 [vi ki i, vi ki b] 36
 go_enter Tryz.func62, Tryz.ntmps62
 go_wp2_with fail
 refine (X.out _ (hL.out _ K0.out.1)).mono ?_
 rintro e W1 ⟨rfl, hb⟩
 have K1 := bsb K0 hb
 clear hb K0
 obtain ⟨c1_0_0, c1_0_1⟩ := (bo1 K1).c2
 obtain ⟨c1_1_0, c1_1_1⟩ := (bo2 K1).c2
 go_wp2_with fail
 refine (Y.out _ (hL.out _ K1.out.1)).mono ?_
 rintro e W2 ⟨rfl, hb⟩
 have K2 := bsb K1 hb
 clear c1_0_0 c1_0_1 c1_1_0 c1_1_1
 clear hb K1
 obtain ⟨c2_0_0, c2_0_1⟩ := (bo1 K2).c2
 obtain ⟨c2_1_0, c2_1_1⟩ := (bo2 K2).c2
 go_wp2
 go_ret
 exact ⟨rfl, K2.out.1⟩
theorem scmp_3 (i a j b : Int) (h : j < i)
  (X : Hid (∀ w : World, Cvl.Lens w → Calls Tryz.prog 17 #[.agg #[vi ki i, vi ki a]] w fun r' w' => r' = zr (.bool true) ∧ Below w.heap.size w w'))
  (Y : Hid (∀ w : World, Cvl.Lens w → Calls Tryz.prog 17 #[.agg #[vi ki j, vi ki b]] w fun r' w' => r' = zr (.bool true) ∧ Below w.heap.size w w'))
  (w : World) (hL : Hid (∀ W : World, Below w.heap.size w W → Cvl.Lens W)) :
  Calls Tryz.prog 62 #[.agg #[vi ki i, vi ki a], .agg #[vi ki j, vi ki b]] w fun r' w' => r' = zr (vi ki (1)) ∧ Below w.heap.size w w' := by
 have h1 : ¬ i < j := by omega
 have h2 : (i == j) = false := by simp; omega
 have K0 := bsn2 w [vi ki i, vi ki a] 36 [vi ki j, vi ki b] 36
 go_enter Tryz.func62, Tryz.ntmps62
 go_wp2_with fail
 refine (X.out _ (hL.out _ K0.out.1)).mono ?_
 rintro e W1 ⟨rfl, hb⟩
 have K1 := bsb K0 hb
 clear hb K0
 obtain ⟨c1_0_0, c1_0_1⟩ := (bo1 K1).c2
 obtain ⟨c1_1_0, c1_1_1⟩ := (bo2 K1).c2
 go_wp2_with fail
 refine (Y.out _ (hL.out _ K1.out.1)).mono ?_
 rintro e W2 ⟨rfl, hb⟩
 have K2 := bsb K1 hb
 clear c1_0_0 c1_0_1 c1_1_0 c1_1_1
 clear hb K1
 obtain ⟨c2_0_0, c2_0_1⟩ := (bo1 K2).c2
 obtain ⟨c2_1_0, c2_1_1⟩ := (bo2 K2).c2
 go_wp2
 go_ret
 exact ⟨rfl, K2.out.1⟩
theorem scmp_4 (i a b : Int) (g : b < a)
  (X : Hid (∀ w : World, Cvl.Lens w → Calls Tryz.prog 17 #[.agg #[vi ki i, vi ki a]] w fun r' w' => r' = zr (.bool true) ∧ Below w.heap.size w w'))
  (Y : Hid (∀ w : World, Cvl.Lens w → Calls Tryz.prog 17 #[.agg #[vi ki i, vi ki b]] w fun r' w' => r' = zr (.bool true) ∧ Below w.heap.size w w'))
  (w : World) (hL : Hid (∀ W : World, Below w.heap.size w W → Cvl.Lens W)) :
  Calls Tryz.prog 62 #[.agg #[vi ki i, vi ki a], .agg #[vi ki i, vi ki b]] w fun r' w' => r' = zr (vi ki (1)) ∧ Below w.heap.size w w' := by
 have g1 : ¬ a < b := by omega
 have h2 : (a == b) = false := by simp; omega
 have K0 := bsn2 w [vi ki i, vi ki a] 36 [vi ki i, vi ki b] 36
 go_enter Tryz.func62, Tryz.ntmps62
 go_wp2_with fail
 refine (X.out _ (hL.out _ K0.out.1)).mono ?_
 rintro e W1 ⟨rfl, hb⟩
 have K1 := bsb K0 hb
 clear hb K0
 obtain ⟨c1_0_0, c1_0_1⟩ := (bo1 K1).c2
 obtain ⟨c1_1_0, c1_1_1⟩ := (bo2 K1).c2
 go_wp2_with fail
 refine (Y.out _ (hL.out _ K1.out.1)).mono ?_
 rintro e W2 ⟨rfl, hb⟩
 have K2 := bsb K1 hb
 clear c1_0_0 c1_0_1 c1_1_0 c1_1_1
 clear hb K1
 obtain ⟨c2_0_0, c2_0_1⟩ := (bo1 K2).c2
 obtain ⟨c2_1_0, c2_1_1⟩ := (bo2 K2).c2
 go_wp2
 go_ret
 exact ⟨rfl, K2.out.1⟩
theorem scmp_5 (i a : Int)
  (X : Hid (∀ w : World, Cvl.Lens w → Calls Tryz.prog 17 #[.agg #[vi ki i, vi ki a]] w fun r' w' => r' = zr (.bool true) ∧ Below w.heap.size w w'))
  (Y : Hid (∀ w : World, Cvl.Lens w → Calls Tryz.prog 17 #[.agg #[vi ki i, vi ki a]] w fun r' w' => r' = zr (.bool true) ∧ Below w.heap.size w w'))
  (w : World) (hL : Hid (∀ W : World, Below w.heap.size w W → Cvl.Lens W)) :
  Calls Tryz.prog 62 #[.agg #[vi ki i, vi ki a], .agg #[vi ki i, vi ki a]] w fun r' w' => r' = zr (vi ki (0)) ∧ Below w.heap.size w w' := by
 have K0 := bsn2 w [vi ki i, vi ki a] 36 [vi ki i, vi ki a] 36
 go_enter Tryz.func62, Tryz.ntmps62
 go_wp2_with fail
 refine (X.out _ (hL.out _ K0.out.1)).mono ?_
 rintro e W1 ⟨rfl, hb⟩
 have K1 := bsb K0 hb
 clear hb K0
 obtain ⟨c1_0_0, c1_0_1⟩ := (bo1 K1).c2
 obtain ⟨c1_1_0, c1_1_1⟩ := (bo2 K1).c2
 go_wp2_with fail
 refine (Y.out _ (hL.out _ K1.out.1)).mono ?_
 rintro e W2 ⟨rfl, hb⟩
 have K2 := bsb K1 hb
 clear c1_0_0 c1_0_1 c1_1_0 c1_1_1
 clear hb K1
 obtain ⟨c2_0_0, c2_0_1⟩ := (bo1 K2).c2
 obtain ⟨c2_1_0, c2_1_1⟩ := (bo2 K2).c2
 go_wp2
 go_ret
 exact ⟨rfl, K2.out.1⟩
theorem rscmp_no1 (i a j b : Int)
  (X : Hid (∀ w : World, Calls Tryz.prog 25 #[.agg #[vi ki i, vi ki a]] w fun r' w' => r' = zr (.bool false) ∧ Below w.heap.size w w'))
  (w : World) :
  Calls Tryz.prog 9 #[.agg #[vi ki i, vi ki a], .agg #[vi ki j, vi ki b]] w fun r' w' => r' = zr (vi ki 0) ∧ Below w.heap.size w w' := by
 have K0 := bsn2 w [vi ki i, vi ki a] 36 [vi ki j, vi ki b] 36
 go_enter Tryz.func9, Tryz.ntmps9
 go_wp2_with fail
 refine (X.out _).mono ?_
 rintro e W1 ⟨rfl, hb⟩
 have K1 := bsb K0 hb
 clear hb K0
 obtain ⟨c1_0_0, c1_0_1⟩ := (bo1 K1).c2
 obtain ⟨c1_1_0, c1_1_1⟩ := (bo2 K1).c2
 go_wp2
 go_ret
 exact ⟨rfl, K1.out.1⟩
theorem rscmp_no2 (i a j b : Int)
  (X : Hid (∀ w : World, Calls Tryz.prog 25 #[.agg #[vi ki i, vi ki a]] w fun r' w' => r' = zr (.bool true) ∧ Below w.heap.size w w'))
  (Y : Hid (∀ w : World, Calls Tryz.prog 25 #[.agg #[vi ki j, vi ki b]] w fun r' w' => r' = zr (.bool false) ∧ Below w.heap.size w w'))
  (w : World) :
  Calls Tryz.prog 9 #[.agg #[vi ki i, vi ki a], .agg #[vi ki j, vi ki b]] w fun r' w' => r' = zr (vi ki 0) ∧ Below w.heap.size w w' := by
 have K0 := bsn2 w [vi ki i, vi ki a] 36 [vi ki j, vi ki b] 36
 go_enter Tryz.func9, Tryz.ntmps9
 go_wp2_with fail
 refine (X.out _).mono ?_
 rintro e W1 ⟨rfl, hb⟩
 have K1 := bsb K0 hb
 clear hb K0
 obtain ⟨c1_0_0, c1_0_1⟩ := (bo1 K1).c2
 obtain ⟨c1_1_0, c1_1_1⟩ := (bo2 K1).c2
 go_wp2_with fail
 refine (Y.out _).mono ?_
 rintro e W2 ⟨rfl, hb⟩
 have K2 := bsb K1 hb
 clear c1_0_0 c1_0_1 c1_1_0 c1_1_1
 clear hb K1
 obtain ⟨c2_0_0, c2_0_1⟩ := (bo1 K2).c2
 obtain ⟨c2_1_0, c2_1_1⟩ := (bo2 K2).c2
 go_wp2
 go_ret
 exact ⟨rfl, K2.out.1⟩
theorem rscmp_yes (i a j b v : Int)
  (X : Hid (∀ w : World, Calls Tryz.prog 25 #[.agg #[vi ki i, vi ki a]] w fun r' w' => r' = zr (.bool true) ∧ Below w.heap.size w w'))
  (Y : Hid (∀ w : World, Calls Tryz.prog 25 #[.agg #[vi ki j, vi ki b]] w fun r' w' => r' = zr (.bool true) ∧ Below w.heap.size w w'))
  (O : Hid (∀ w : World, Calls Tryz.prog 26 #[vi ki i, vi ki j, vi ki a, vi ki b] w fun r' w' => r' = zr (vi ki v) ∧ w' = w))
  (w : World) :
  Calls Tryz.prog 9 #[.agg #[vi ki i, vi ki a], .agg #[vi ki j, vi ki b]] w fun r' w' => r' = zr (vi ki v) ∧ Below w.heap.size w w' := by
 have K0 := bsn2 w [vi ki i, vi ki a] 36 [vi ki j, vi ki b] 36
 go_enter Tryz.func9, Tryz.ntmps9
 go_wp2_with fail
 refine (X.out _).mono ?_
 rintro e W1 ⟨rfl, hb⟩
 have K1 := bsb K0 hb
 clear hb K0
 obtain ⟨c1_0_0, c1_0_1⟩ := (bo1 K1).c2
 obtain ⟨c1_1_0, c1_1_1⟩ := (bo2 K1).c2
 go_wp2_with fail
 refine (Y.out _).mono ?_
 rintro e W2 ⟨rfl, hb⟩
 have K2 := bsb K1 hb
 clear c1_0_0 c1_0_1 c1_1_0 c1_1_1
 clear hb K1
 obtain ⟨c2_0_0, c2_0_1⟩ := (bo1 K2).c2
 obtain ⟨c2_1_0, c2_1_1⟩ := (bo2 K2).c2
 go_wp2_with fail
 refine (O.out _).mono ?_
 rintro e W3 ⟨rfl, hw⟩
 rw [hw]
 clear hw W3
 go_wp2
 go_ret
 exact ⟨rfl, K2.out.1⟩
theorem sof_no (i u : Int)
  (R : Hid (∀ w : World, Cvl.Lens w → Calls Tryz.prog 17 #[.agg #[vi ki i, vi ki u]] w fun r' w' => r' = zr (.bool false) ∧ Below w.heap.size w w'))
  (w : World) (hL : Hid (∀ W : World, Below w.heap.size w W → Cvl.Lens W)) :
  Calls Tryz.prog 98 #[.agg #[vi ki i, vi ki u]] w fun r' w' => r' = zr (.tuple #[.agg #[vi ki 0, vi ki 0], vi ki 0, vi ki 1]) ∧ Below w.heap.size w w' := by
 have K0 := bsn2 w [vi ki i, vi ki u] 36 [vi ki 0, vi ki 0] 95
 go_enter Tryz.func98, Tryz.ntmps98
 go_wp2_with fail
 refine (R.out _ (hL.out _ K0.out.1)).mono ?_
 rintro e W1 ⟨rfl, hb⟩
 have K1 := bsb K0 hb
 clear hb K0
 obtain ⟨c1_0_0, c1_0_1⟩ := (bo1 K1).c2
 obtain ⟨z1_0_0, z1_0_1⟩ := (bo1 K1).f2
 obtain ⟨c1_1_0, c1_1_1⟩ := (bo2 K1).c2
 have XF : Hid (Bx (W1.setCells (w.heap.size + 1) 0 [vi ki 0, vi ki 0]) (w.heap.size + 1) [vi ki 0, vi ki 0]) := (K1.out.at (w.heap.size + 1) [vi ki 0, vi ki 0] (by simp)).setAll _ rfl
 have BF : Hid (Below w.heap.size w (W1.setCells (w.heap.size + 1) 0 [vi ki 0, vi ki 0])) := below_setCells (by omega) _ _ _ K1.out.1
 have y0 := XF.out.c 0 rfl
 have y1 := XF.out.c 1 rfl
 simp only [World.setCells, Nat.zero_add] at y0 y1
 clear XF
 go_wp2
 exact bodyPost_ret (v := .tuple #[.agg #[vi ki 0, vi ki 0], vi ki 0, vi ki 1]) (by simp [results, Tryz.results98, go_sem, y0, y1]) rfl ⟨rfl, BF.out⟩
theorem sof_inf (i u : Int) (hi : i ≠ 0)
  (R : Hid (∀ w : World, Cvl.Lens w → Calls Tryz.prog 17 #[.agg #[vi ki i, vi ki u]] w fun r' w' => r' = zr (.bool true) ∧ Below w.heap.size w w'))
  (w : World) (hL : Hid (∀ W : World, Below w.heap.size w W → Cvl.Lens W)) :
  Calls Tryz.prog 98 #[.agg #[vi ki i, vi ki u]] w fun r' w' => r' = zr (.tuple #[.agg #[vi ki i, vi ki 0], vi ki 0, vi ki 0]) ∧ Below w.heap.size w w' := by
 have i1 : (i != 0) = true := bne_iff_ne.2 hi
 have K0 := bsn2 w [vi ki i, vi ki u] 36 [vi ki 0, vi ki 0] 95
 go_enter Tryz.func98, Tryz.ntmps98
 go_wp2_with fail
 refine (R.out _ (hL.out _ K0.out.1)).mono ?_
 rintro e W1 ⟨rfl, hb⟩
 have K1 := bsb K0 hb
 clear hb K0
 obtain ⟨c1_0_0, c1_0_1⟩ := (bo1 K1).c2
 obtain ⟨z1_0_0, z1_0_1⟩ := (bo1 K1).f2
 obtain ⟨c1_1_0, c1_1_1⟩ := (bo2 K1).c2
 have XF : Hid (Bx (W1.setCells (w.heap.size + 1) 0 [vi ki i, vi ki 0]) (w.heap.size + 1) [vi ki i, vi ki 0]) := (K1.out.at (w.heap.size + 1) [vi ki 0, vi ki 0] (by simp)).setAll _ rfl
 have BF : Hid (Below w.heap.size w (W1.setCells (w.heap.size + 1) 0 [vi ki i, vi ki 0])) := below_setCells (by omega) _ _ _ K1.out.1
 have y0 := XF.out.c 0 rfl
 have y1 := XF.out.c 1 rfl
 simp only [World.setCells, Nat.zero_add] at y0 y1
 clear XF
 go_wp2
 exact bodyPost_ret (v := .tuple #[.agg #[vi ki i, vi ki 0], vi ki 0, vi ki 0]) (by simp [results, Tryz.results98, go_sem, y0, y1]) rfl ⟨rfl, BF.out⟩
theorem sof_yes (u q r : Int)
  (R : Hid (∀ w : World, Cvl.Lens w → Calls Tryz.prog 17 #[.agg #[vi ki 0, vi ki u]] w fun r' w' => r' = zr (.bool true) ∧ Below w.heap.size w w'))
  (S : Hid (∀ w : World, Calls Tryz.prog 34 #[vi ki u] w fun r' w' => r' = zr (.tuple #[vi ki q, vi ki r]) ∧ w' = w))
  (w : World) (hL : Hid (∀ W : World, Below w.heap.size w W → Cvl.Lens W)) :
  Calls Tryz.prog 98 #[.agg #[vi ki 0, vi ki u]] w fun r' w' => r' = zr (.tuple #[.agg #[vi ki 0, vi ki q], vi ki r, vi ki 0]) ∧ Below w.heap.size w w' := by
 have K0 := bsn2 w [vi ki 0, vi ki u] 36 [vi ki 0, vi ki 0] 95
 go_enter Tryz.func98, Tryz.ntmps98
 go_wp2_with fail
 refine (R.out _ (hL.out _ K0.out.1)).mono ?_
 rintro e W1 ⟨rfl, hb⟩
 have K1 := bsb K0 hb
 clear hb K0
 obtain ⟨c1_0_0, c1_0_1⟩ := (bo1 K1).c2
 obtain ⟨z1_0_0, z1_0_1⟩ := (bo1 K1).f2
 obtain ⟨c1_1_0, c1_1_1⟩ := (bo2 K1).c2
 go_wp2_with fail
 refine (S.out _).mono ?_
 rintro e W2 ⟨rfl, hw⟩
 rw [hw]
 clear hw W2
 have XF : Hid (Bx (W1.setCells (w.heap.size + 1) 0 [vi ki 0, vi ki q]) (w.heap.size + 1) [vi ki 0, vi ki q]) := (K1.out.at (w.heap.size + 1) [vi ki 0, vi ki 0] (by simp)).setAll _ rfl
 have BF : Hid (Below w.heap.size w (W1.setCells (w.heap.size + 1) 0 [vi ki 0, vi ki q])) := below_setCells (by omega) _ _ _ K1.out.1
 have y0 := XF.out.c 0 rfl
 have y1 := XF.out.c 1 rfl
 simp only [World.setCells, Nat.zero_add] at y0 y1
 clear XF
 go_wp2
 exact bodyPost_ret (v := .tuple #[.agg #[vi ki 0, vi ki q], vi ki r, vi ki 0]) (by simp [results, Tryz.results98, go_sem, y0, y1]) rfl ⟨rfl, BF.out⟩
theorem st_no (i d u : Int)
  (R : Hid (∀ w : World, Cvl.Lens w → Calls Tryz.prog 117 #[.agg #[vi ki i, vi ki d]] w fun r' w' => r' = zr (.bool false) ∧ Below w.heap.size w w'))
  (w : World) (hL : Hid (∀ W : World, Below w.heap.size w W → Cvl.Lens W)) :
  Calls Tryz.prog 101 #[.agg #[vi ki i, vi ki d], vi ki u] w fun r' w' => r' = zr (.tuple #[.agg #[vi ki 0, vi ki 0], vi ki 1]) ∧ Below w.heap.size w w' := by
 have K0 := bsn2 w [vi ki i, vi ki d] 95 [vi ki 0, vi ki 0] 36
 go_enter Tryz.func101, Tryz.ntmps101
 go_wp2_with fail
 refine (R.out _ (hL.out _ K0.out.1)).mono ?_
 rintro e W1 ⟨rfl, hb⟩
 have K1 := bsb K0 hb
 clear hb K0
 obtain ⟨c1_0_0, c1_0_1⟩ := (bo1 K1).c2
 obtain ⟨z1_0_0, z1_0_1⟩ := (bo1 K1).f2
 obtain ⟨c1_1_0, c1_1_1⟩ := (bo2 K1).c2
 have XF : Hid (Bx (W1.setCells (w.heap.size + 1) 0 [vi ki 0, vi ki 0]) (w.heap.size + 1) [vi ki 0, vi ki 0]) := (K1.out.at (w.heap.size + 1) [vi ki 0, vi ki 0] (by simp)).setAll _ rfl
 have BF : Hid (Below w.heap.size w (W1.setCells (w.heap.size + 1) 0 [vi ki 0, vi ki 0])) := below_setCells (by omega) _ _ _ K1.out.1
 have y0 := XF.out.c 0 rfl
 have y1 := XF.out.c 1 rfl
 simp only [World.setCells, Nat.zero_add] at y0 y1
 clear XF
 go_wp2
 exact bodyPost_ret (v := .tuple #[.agg #[vi ki 0, vi ki 0], vi ki 1]) (by simp [results, Tryz.results101, go_sem, y0, y1]) rfl ⟨rfl, BF.out⟩
theorem st_neg (i d u : Int) (hu : u < 0)
  (R : Hid (∀ w : World, Cvl.Lens w → Calls Tryz.prog 117 #[.agg #[vi ki i, vi ki d]] w fun r' w' => r' = zr (.bool true) ∧ Below w.heap.size w w'))
  (w : World) (hL : Hid (∀ W : World, Below w.heap.size w W → Cvl.Lens W)) :
  Calls Tryz.prog 101 #[.agg #[vi ki i, vi ki d], vi ki u] w fun r' w' => r' = zr (.tuple #[.agg #[vi ki 0, vi ki 0], vi ki 1]) ∧ Below w.heap.size w w' := by
 have K0 := bsn2 w [vi ki i, vi ki d] 95 [vi ki 0, vi ki 0] 36
 go_enter Tryz.func101, Tryz.ntmps101
 go_wp2_with fail
 refine (R.out _ (hL.out _ K0.out.1)).mono ?_
 rintro e W1 ⟨rfl, hb⟩
 have K1 := bsb K0 hb
 clear hb K0
 obtain ⟨c1_0_0, c1_0_1⟩ := (bo1 K1).c2
 obtain ⟨z1_0_0, z1_0_1⟩ := (bo1 K1).f2
 obtain ⟨c1_1_0, c1_1_1⟩ := (bo2 K1).c2
 have XF : Hid (Bx (W1.setCells (w.heap.size + 1) 0 [vi ki 0, vi ki 0]) (w.heap.size + 1) [vi ki 0, vi ki 0]) := (K1.out.at (w.heap.size + 1) [vi ki 0, vi ki 0] (by simp)).setAll _ rfl
 have BF : Hid (Below w.heap.size w (W1.setCells (w.heap.size + 1) 0 [vi ki 0, vi ki 0])) := below_setCells (by omega) _ _ _ K1.out.1
 have y0 := XF.out.c 0 rfl
 have y1 := XF.out.c 1 rfl
 simp only [World.setCells, Nat.zero_add] at y0 y1
 clear XF
 go_wp2
 exact bodyPost_ret (v := .tuple #[.agg #[vi ki 0, vi ki 0], vi ki 1]) (by simp [results, Tryz.results101, go_sem, y0, y1]) rfl ⟨rfl, BF.out⟩
theorem st_big (i d u : Int) (hu : 86400000000 < u)
  (R : Hid (∀ w : World, Cvl.Lens w → Calls Tryz.prog 117 #[.agg #[vi ki i, vi ki d]] w fun r' w' => r' = zr (.bool true) ∧ Below w.heap.size w w'))
  (w : World) (hL : Hid (∀ W : World, Below w.heap.size w W → Cvl.Lens W)) :
  Calls Tryz.prog 101 #[.agg #[vi ki i, vi ki d], vi ki u] w fun r' w' => r' = zr (.tuple #[.agg #[vi ki 0, vi ki 0], vi ki 1]) ∧ Below w.heap.size w w' := by
 have h0 : ¬ u < 0 := by omega
 have K0 := bsn2 w [vi ki i, vi ki d] 95 [vi ki 0, vi ki 0] 36
 go_enter Tryz.func101, Tryz.ntmps101
 go_wp2_with fail
 refine (R.out _ (hL.out _ K0.out.1)).mono ?_
 rintro e W1 ⟨rfl, hb⟩
 have K1 := bsb K0 hb
 clear hb K0
 obtain ⟨c1_0_0, c1_0_1⟩ := (bo1 K1).c2
 obtain ⟨z1_0_0, z1_0_1⟩ := (bo1 K1).f2
 obtain ⟨c1_1_0, c1_1_1⟩ := (bo2 K1).c2
 have XF : Hid (Bx (W1.setCells (w.heap.size + 1) 0 [vi ki 0, vi ki 0]) (w.heap.size + 1) [vi ki 0, vi ki 0]) := (K1.out.at (w.heap.size + 1) [vi ki 0, vi ki 0] (by simp)).setAll _ rfl
 have BF : Hid (Below w.heap.size w (W1.setCells (w.heap.size + 1) 0 [vi ki 0, vi ki 0])) := below_setCells (by omega) _ _ _ K1.out.1
 have y0 := XF.out.c 0 rfl
 have y1 := XF.out.c 1 rfl
 simp only [World.setCells, Nat.zero_add] at y0 y1
 clear XF
 go_wp2
 exact bodyPost_ret (v := .tuple #[.agg #[vi ki 0, vi ki 0], vi ki 1]) (by simp [results, Tryz.results101, go_sem, y0, y1]) rfl ⟨rfl, BF.out⟩
theorem st_inf (i d u : Int) (hi : i ≠ 0) (h0 : ¬ u < 0) (h1 : ¬ 86400000000 < u)
  (R : Hid (∀ w : World, Cvl.Lens w → Calls Tryz.prog 117 #[.agg #[vi ki i, vi ki d]] w fun r' w' => r' = zr (.bool true) ∧ Below w.heap.size w w'))
  (w : World) (hL : Hid (∀ W : World, Below w.heap.size w W → Cvl.Lens W)) :
  Calls Tryz.prog 101 #[.agg #[vi ki i, vi ki d], vi ki u] w fun r' w' => r' = zr (.tuple #[.agg #[vi ki i, vi ki 0], vi ki 0]) ∧ Below w.heap.size w w' := by
 have i1 : (i != 0) = true := bne_iff_ne.2 hi
 have K0 := bsn2 w [vi ki i, vi ki d] 95 [vi ki 0, vi ki 0] 36
 go_enter Tryz.func101, Tryz.ntmps101
 go_wp2_with fail
 refine (R.out _ (hL.out _ K0.out.1)).mono ?_
 rintro e W1 ⟨rfl, hb⟩
 have K1 := bsb K0 hb
 clear hb K0
 obtain ⟨c1_0_0, c1_0_1⟩ := (bo1 K1).c2
 obtain ⟨z1_0_0, z1_0_1⟩ := (bo1 K1).f2
 obtain ⟨c1_1_0, c1_1_1⟩ := (bo2 K1).c2
 have XF : Hid (Bx (W1.setCells (w.heap.size + 1) 0 [vi ki i, vi ki 0]) (w.heap.size + 1) [vi ki i, vi ki 0]) := (K1.out.at (w.heap.size + 1) [vi ki 0, vi ki 0] (by simp)).setAll _ rfl
 have BF : Hid (Below w.heap.size w (W1.setCells (w.heap.size + 1) 0 [vi ki i, vi ki 0])) := below_setCells (by omega) _ _ _ K1.out.1
 have y0 := XF.out.c 0 rfl
 have y1 := XF.out.c 1 rfl
 simp only [World.setCells, Nat.zero_add] at y0 y1
 clear XF
 go_wp2
 exact bodyPost_ret (v := .tuple #[.agg #[vi ki i, vi ki 0], vi ki 0]) (by simp [results, Tryz.results101, go_sem, y0, y1]) rfl ⟨rfl, BF.out⟩
theorem st_true (d u : Int) (d1 : -2451507 ≤ d) (d2 : d ≤ 106751982) (h0 : ¬ u < 0) (h1 : ¬ 86400000000 < u)
  (R : Hid (∀ w : World, Cvl.Lens w → Calls Tryz.prog 117 #[.agg #[vi ki 0, vi ki d]] w fun r' w' => r' = zr (.bool true) ∧ Below w.heap.size w w'))
  (Q : Hid (∀ w : World, Cvl.Lens w → Calls Tryz.prog 17 #[.agg #[vi ki 0, vi ki (d * 86400000000 + u)]] w fun r' w' => r' = zr (.bool true) ∧ Below w.heap.size w w'))
  (w : World) (hL : Hid (∀ W : World, Below w.heap.size w W → Cvl.Lens W)) :
  Calls Tryz.prog 101 #[.agg #[vi ki 0, vi ki d], vi ki u] w fun r' w' => r' = zr (.tuple #[.agg #[vi ki 0, vi ki (d * 86400000000 + u)], vi ki 0]) ∧ Below w.heap.size w w' := by
 have K0 := bsn2 w [vi ki 0, vi ki d] 95 [vi ki 0, vi ki 0] 36
 go_enter Tryz.func101, Tryz.ntmps101
 go_wp2_with fail
 refine (R.out _ (hL.out _ K0.out.1)).mono ?_
 rintro e W1 ⟨rfl, hb⟩
 have K1 := bsb K0 hb
 clear hb K0
 obtain ⟨c1_0_0, c1_0_1⟩ := (bo1 K1).c2
 obtain ⟨z1_0_0, z1_0_1⟩ := (bo1 K1).f2
 obtain ⟨c1_1_0, c1_1_1⟩ := (bo2 K1).c2
 have K2 : Hid (BS w [(W1.heap.size, [vi ki 0, vi ki (d * 86400000000 + u)]), (w.heap.size + 1, [vi ki 0, vi ki 0]), (w.heap.size, [vi ki 0, vi ki d])] (W1.alloc (.cells #[vi ki 0, vi ki (d * 86400000000 + u)] 36))) := K1.out.new [vi ki 0, vi ki (d * 86400000000 + u)] 36 rfl
 go_wp2_with fail
 refine (Q.out _ (hL.out _ K2.out.1)).mono ?_
 rintro e W3 ⟨rfl, hb⟩
 have K3 := bsb K2 hb
 clear c1_0_0 c1_0_1 z1_0_0 z1_0_1 c1_1_0 c1_1_1
 clear hb K2
 obtain ⟨c3_0_0, c3_0_1⟩ := (bo1 K3).c2
 obtain ⟨c3_1_0, c3_1_1⟩ := (bo2 K3).c2
 obtain ⟨z3_1_0, z3_1_1⟩ := (bo2 K3).f2
 obtain ⟨c3_2_0, c3_2_1⟩ := (bo3 K3).c2
 have XF : Hid (Bx (W3.setCells (w.heap.size + 1) 0 [vi ki 0, vi ki (d * 86400000000 + u)]) (w.heap.size + 1) [vi ki 0, vi ki (d * 86400000000 + u)]) := (K3.out.at (w.heap.size + 1) [vi ki 0, vi ki 0] (by simp)).setAll _ rfl
 have BF : Hid (Below w.heap.size w (W3.setCells (w.heap.size + 1) 0 [vi ki 0, vi ki (d * 86400000000 + u)])) := below_setCells (by omega) _ _ _ K3.out.1
 have y0 := XF.out.c 0 rfl
 have y1 := XF.out.c 1 rfl
 simp only [World.setCells, Nat.zero_add] at y0 y1
 clear XF
 go_wp2
 exact bodyPost_ret (v := .tuple #[.agg #[vi ki 0, vi ki (d * 86400000000 + u)], vi ki 0]) (by simp [results, Tryz.results101, go_sem, y0, y1]) rfl ⟨rfl, BF.out⟩
theorem st_false (d u : Int) (d1 : -2451507 ≤ d) (d2 : d ≤ 106751982) (h0 : ¬ u < 0) (h1 : ¬ 86400000000 < u)
  (R : Hid (∀ w : World, Cvl.Lens w → Calls Tryz.prog 117 #[.agg #[vi ki 0, vi ki d]] w fun r' w' => r' = zr (.bool true) ∧ Below w.heap.size w w'))
  (Q : Hid (∀ w : World, Cvl.Lens w → Calls Tryz.prog 17 #[.agg #[vi ki 0, vi ki (d * 86400000000 + u)]] w fun r' w' => r' = zr (.bool false) ∧ Below w.heap.size w w'))
  (w : World) (hL : Hid (∀ W : World, Below w.heap.size w W → Cvl.Lens W)) :
  Calls Tryz.prog 101 #[.agg #[vi ki 0, vi ki d], vi ki u] w fun r' w' => r' = zr (.tuple #[.agg #[vi ki 0, vi ki 0], vi ki 10]) ∧ Below w.heap.size w w' := by
 have K0 := bsn2 w [vi ki 0, vi ki d] 95 [vi ki 0, vi ki 0] 36
 go_enter Tryz.func101, Tryz.ntmps101
 go_wp2_with fail
 refine (R.out _ (hL.out _ K0.out.1)).mono ?_
 rintro e W1 ⟨rfl, hb⟩
 have K1 := bsb K0 hb
 clear hb K0
 obtain ⟨c1_0_0, c1_0_1⟩ := (bo1 K1).c2
 obtain ⟨z1_0_0, z1_0_1⟩ := (bo1 K1).f2
 obtain ⟨c1_1_0, c1_1_1⟩ := (bo2 K1).c2
 have K2 : Hid (BS w [(W1.heap.size, [vi ki 0, vi ki (d * 86400000000 + u)]), (w.heap.size + 1, [vi ki 0, vi ki 0]), (w.heap.size, [vi ki 0, vi ki d])] (W1.alloc (.cells #[vi ki 0, vi ki (d * 86400000000 + u)] 36))) := K1.out.new [vi ki 0, vi ki (d * 86400000000 + u)] 36 rfl
 go_wp2_with fail
 refine (Q.out _ (hL.out _ K2.out.1)).mono ?_
 rintro e W3 ⟨rfl, hb⟩
 have K3 := bsb K2 hb
 clear c1_0_0 c1_0_1 z1_0_0 z1_0_1 c1_1_0 c1_1_1
 clear hb K2
 obtain ⟨c3_0_0, c3_0_1⟩ := (bo1 K3).c2
 obtain ⟨c3_1_0, c3_1_1⟩ := (bo2 K3).c2
 obtain ⟨z3_1_0, z3_1_1⟩ := (bo2 K3).f2
 obtain ⟨c3_2_0, c3_2_1⟩ := (bo3 K3).c2
 have XF : Hid (Bx (W3.setCells (w.heap.size + 1) 0 [vi ki 0, vi ki 0]) (w.heap.size + 1) [vi ki 0, vi ki 0]) := (K3.out.at (w.heap.size + 1) [vi ki 0, vi ki 0] (by simp)).setAll _ rfl
 have BF : Hid (Below w.heap.size w (W3.setCells (w.heap.size + 1) 0 [vi ki 0, vi ki 0])) := below_setCells (by omega) _ _ _ K3.out.1
 have y0 := XF.out.c 0 rfl
 have y1 := XF.out.c 1 rfl
 simp only [World.setCells, Nat.zero_add] at y0 y1
 clear XF
 go_wp2
 exact bodyPost_ret (v := .tuple #[.agg #[vi ki 0, vi ki 0], vi ki 10]) (by simp [results, Tryz.results101, go_sem, y0, y1]) rfl ⟨rfl, BF.out⟩
theorem rt_no (i d u : Int)
  (R : Hid (∀ w : World, Calls Tryz.prog 88 #[.agg #[vi ki i, vi ki d]] w fun r' w' => r' = zr (.bool false) ∧ Below w.heap.size w w'))
  (w : World) :
  Calls Tryz.prog 66 #[.agg #[vi ki i, vi ki d], vi ki u] w fun r' w' => r' = zr (.tuple #[.agg #[vi ki 0, vi ki 0], vi ki 1]) ∧ Below w.heap.size w w' := by
 have K0 := bsn2 w [vi ki i, vi ki d] 95 [vi ki 0, vi ki 0] 36
 go_enter Tryz.func66, Tryz.ntmps66
 go_wp2_with fail
 refine (R.out _).mono ?_
 rintro e W1 ⟨rfl, hb⟩
 have K1 := bsb K0 hb
 clear hb K0
 obtain ⟨c1_0_0, c1_0_1⟩ := (bo1 K1).c2
 obtain ⟨z1_0_0, z1_0_1⟩ := (bo1 K1).f2
 obtain ⟨c1_1_0, c1_1_1⟩ := (bo2 K1).c2
 have XF : Hid (Bx (W1.setCells (w.heap.size + 1) 0 [vi ki 0, vi ki 0]) (w.heap.size + 1) [vi ki 0, vi ki 0]) := (K1.out.at (w.heap.size + 1) [vi ki 0, vi ki 0] (by simp)).setAll _ rfl
 have BF : Hid (Below w.heap.size w (W1.setCells (w.heap.size + 1) 0 [vi ki 0, vi ki 0])) := below_setCells (by omega) _ _ _ K1.out.1
 have y0 := XF.out.c 0 rfl
 have y1 := XF.out.c 1 rfl
 simp only [World.setCells, Nat.zero_add] at y0 y1
 clear XF
 go_wp2
 exact bodyPost_ret (v := .tuple #[.agg #[vi ki 0, vi ki 0], vi ki 1]) (by simp [results, Tryz.results66, go_sem, y0, y1]) rfl ⟨rfl, BF.out⟩
theorem rt_neg (i d u : Int) (hu : u < 0)
  (R : Hid (∀ w : World, Calls Tryz.prog 88 #[.agg #[vi ki i, vi ki d]] w fun r' w' => r' = zr (.bool true) ∧ Below w.heap.size w w'))
  (w : World) :
  Calls Tryz.prog 66 #[.agg #[vi ki i, vi ki d], vi ki u] w fun r' w' => r' = zr (.tuple #[.agg #[vi ki 0, vi ki 0], vi ki 1]) ∧ Below w.heap.size w w' := by
 have K0 := bsn2 w [vi ki i, vi ki d] 95 [vi ki 0, vi ki 0] 36
 go_enter Tryz.func66, Tryz.ntmps66
 go_wp2_with fail
 refine (R.out _).mono ?_
 rintro e W1 ⟨rfl, hb⟩
 have K1 := bsb K0 hb
 clear hb K0
 obtain ⟨c1_0_0, c1_0_1⟩ := (bo1 K1).c2
 obtain ⟨z1_0_0, z1_0_1⟩ := (bo1 K1).f2
 obtain ⟨c1_1_0, c1_1_1⟩ := (bo2 K1).c2
 have XF : Hid (Bx (W1.setCells (w.heap.size + 1) 0 [vi ki 0, vi ki 0]) (w.heap.size + 1) [vi ki 0, vi ki 0]) := (K1.out.at (w.heap.size + 1) [vi ki 0, vi ki 0] (by simp)).setAll _ rfl
 have BF : Hid (Below w.heap.size w (W1.setCells (w.heap.size + 1) 0 [vi ki 0, vi ki 0])) := below_setCells (by omega) _ _ _ K1.out.1
 have y0 := XF.out.c 0 rfl
 have y1 := XF.out.c 1 rfl
 simp only [World.setCells, Nat.zero_add] at y0 y1
 clear XF
 go_wp2
 exact bodyPost_ret (v := .tuple #[.agg #[vi ki 0, vi ki 0], vi ki 1]) (by simp [results, Tryz.results66, go_sem, y0, y1]) rfl ⟨rfl, BF.out⟩
theorem rt_big (i d u : Int) (hu : 86400000000 < u)
  (R : Hid (∀ w : World, Calls Tryz.prog 88 #[.agg #[vi ki i, vi ki d]] w fun r' w' => r' = zr (.bool true) ∧ Below w.heap.size w w'))
  (w : World) :
  Calls Tryz.prog 66 #[.agg #[vi ki i, vi ki d], vi ki u] w fun r' w' => r' = zr (.tuple #[.agg #[vi ki 0, vi ki 0], vi ki 1]) ∧ Below w.heap.size w w' := by
 have h0 : ¬ u < 0 := by omega
 have K0 := bsn2 w [vi ki i, vi ki d] 95 [vi ki 0, vi ki 0] 36
 go_enter Tryz.func66, Tryz.ntmps66
 go_wp2_with fail
 refine (R.out _).mono ?_
 rintro e W1 ⟨rfl, hb⟩
 have K1 := bsb K0 hb
 clear hb K0
 obtain ⟨c1_0_0, c1_0_1⟩ := (bo1 K1).c2
 obtain ⟨z1_0_0, z1_0_1⟩ := (bo1 K1).f2
 obtain ⟨c1_1_0, c1_1_1⟩ := (bo2 K1).c2
 have XF : Hid (Bx (W1.setCells (w.heap.size + 1) 0 [vi ki 0, vi ki 0]) (w.heap.size + 1) [vi ki 0, vi ki 0]) := (K1.out.at (w.heap.size + 1) [vi ki 0, vi ki 0] (by simp)).setAll _ rfl
 have BF : Hid (Below w.heap.size w (W1.setCells (w.heap.size + 1) 0 [vi ki 0, vi ki 0])) := below_setCells (by omega) _ _ _ K1.out.1
 have y0 := XF.out.c 0 rfl
 have y1 := XF.out.c 1 rfl
 simp only [World.setCells, Nat.zero_add] at y0 y1
 clear XF
 go_wp2
 exact bodyPost_ret (v := .tuple #[.agg #[vi ki 0, vi ki 0], vi ki 1]) (by simp [results, Tryz.results66, go_sem, y0, y1]) rfl ⟨rfl, BF.out⟩
theorem rt_inf (i d u : Int) (hi : i ≠ 0) (h0 : ¬ u < 0) (h1 : ¬ 86400000000 < u)
  (R : Hid (∀ w : World, Calls Tryz.prog 88 #[.agg #[vi ki i, vi ki d]] w fun r' w' => r' = zr (.bool true) ∧ Below w.heap.size w w'))
  (w : World) :
  Calls Tryz.prog 66 #[.agg #[vi ki i, vi ki d], vi ki u] w fun r' w' => r' = zr (.tuple #[.agg #[vi ki i, vi ki 0], vi ki 0]) ∧ Below w.heap.size w w' := by
 have i1 : (i != 0) = true := bne_iff_ne.2 hi
 have K0 := bsn2 w [vi ki i, vi ki d] 95 [vi ki 0, vi ki 0] 36
 go_enter Tryz.func66, Tryz.ntmps66
 go_wp2_with fail
 refine (R.out _).mono ?_
 rintro e W1 ⟨rfl, hb⟩
 have K1 := bsb K0 hb
 clear hb K0
 obtain ⟨c1_0_0, c1_0_1⟩ := (bo1 K1).c2
 obtain ⟨z1_0_0, z1_0_1⟩ := (bo1 K1).f2
 obtain ⟨c1_1_0, c1_1_1⟩ := (bo2 K1).c2
 have XF : Hid (Bx (W1.setCells (w.heap.size + 1) 0 [vi ki i, vi ki 0]) (w.heap.size + 1) [vi ki i, vi ki 0]) := (K1.out.at (w.heap.size + 1) [vi ki 0, vi ki 0] (by simp)).setAll _ rfl
 have BF : Hid (Below w.heap.size w (W1.setCells (w.heap.size + 1) 0 [vi ki i, vi ki 0])) := below_setCells (by omega) _ _ _ K1.out.1
 have y0 := XF.out.c 0 rfl
 have y1 := XF.out.c 1 rfl
 simp only [World.setCells, Nat.zero_add] at y0 y1
 clear XF
 go_wp2
 exact bodyPost_ret (v := .tuple #[.agg #[vi ki i, vi ki 0], vi ki 0]) (by simp [results, Tryz.results66, go_sem, y0, y1]) rfl ⟨rfl, BF.out⟩
theorem rt_true (d u : Int) (d1 : -2451507 ≤ d) (d2 : d ≤ 106751982) (h0 : ¬ u < 0) (h1 : u < 86400000000)
  (R : Hid (∀ w : World, Calls Tryz.prog 88 #[.agg #[vi ki 0, vi ki d]] w fun r' w' => r' = zr (.bool true) ∧ Below w.heap.size w w'))
  (C : Hid (∀ w : World, Calls Tryz.prog 49 #[vi ki d] w fun r' w' => r' = zr (.bool true) ∧ w' = w))
  (w : World) :
  Calls Tryz.prog 66 #[.agg #[vi ki 0, vi ki d], vi ki u] w fun r' w' => r' = zr (.tuple #[.agg #[vi ki 0, vi ki (d * 86400000000 + u)], vi ki 0]) ∧ Below w.heap.size w w' := by
 have h2 : ¬ 86400000000 < u := by omega
 have h3 : (u == 86400000000) = false := by simp; omega
 have K0 := bsn2 w [vi ki 0, vi ki d] 95 [vi ki 0, vi ki 0] 36
 go_enter Tryz.func66, Tryz.ntmps66
 go_wp2_with fail
 refine (R.out _).mono ?_
 rintro e W1 ⟨rfl, hb⟩
 have K1 := bsb K0 hb
 clear hb K0
 obtain ⟨c1_0_0, c1_0_1⟩ := (bo1 K1).c2
 obtain ⟨z1_0_0, z1_0_1⟩ := (bo1 K1).f2
 obtain ⟨c1_1_0, c1_1_1⟩ := (bo2 K1).c2
 go_wp2_with fail
 refine (C.out _).mono ?_
 rintro e W2 ⟨rfl, hw⟩
 rw [hw]
 clear hw W2
 have XF : Hid (Bx (W1.setCells (w.heap.size + 1) 0 [vi ki 0, vi ki (d * 86400000000 + u)]) (w.heap.size + 1) [vi ki 0, vi ki (d * 86400000000 + u)]) := (K1.out.at (w.heap.size + 1) [vi ki 0, vi ki 0] (by simp)).setAll _ rfl
 have BF : Hid (Below w.heap.size w (W1.setCells (w.heap.size + 1) 0 [vi ki 0, vi ki (d * 86400000000 + u)])) := below_setCells (by omega) _ _ _ K1.out.1
 have y0 := XF.out.c 0 rfl
 have y1 := XF.out.c 1 rfl
 simp only [World.setCells, Nat.zero_add] at y0 y1
 clear XF
 go_wp2
 exact bodyPost_ret (v := .tuple #[.agg #[vi ki 0, vi ki (d * 86400000000 + u)], vi ki 0]) (by simp [results, Tryz.results66, go_sem, y0, y1]) rfl ⟨rfl, BF.out⟩
theorem rt_end_true (d : Int) (d1 : -2451507 ≤ d) (d2 : d ≤ 106751982)
  (R : Hid (∀ w : World, Calls Tryz.prog 88 #[.agg #[vi ki 0, vi ki d]] w fun r' w' => r' = zr (.bool true) ∧ Below w.heap.size w w'))
  (C : Hid (∀ w : World, Calls Tryz.prog 49 #[vi ki (d + 1)] w fun r' w' => r' = zr (.bool true) ∧ w' = w))
  (w : World) :
  Calls Tryz.prog 66 #[.agg #[vi ki 0, vi ki d], vi ki 86400000000] w fun r' w' => r' = zr (.tuple #[.agg #[vi ki 0, vi ki ((d + 1) * 86400000000)], vi ki 0]) ∧ Below w.heap.size w w' := by
 have K0 := bsn2 w [vi ki 0, vi ki d] 95 [vi ki 0, vi ki 0] 36
 go_enter Tryz.func66, Tryz.ntmps66
 go_wp2_with fail
 refine (R.out _).mono ?_
 rintro e W1 ⟨rfl, hb⟩
 have K1 := bsb K0 hb
 clear hb K0
 obtain ⟨c1_0_0, c1_0_1⟩ := (bo1 K1).c2
 obtain ⟨z1_0_0, z1_0_1⟩ := (bo1 K1).f2
 obtain ⟨c1_1_0, c1_1_1⟩ := (bo2 K1).c2
 go_wp2_with fail
 refine (C.out _).mono ?_
 rintro e W2 ⟨rfl, hw⟩
 rw [hw]
 clear hw W2
 have XF : Hid (Bx (W1.setCells (w.heap.size + 1) 0 [vi ki 0, vi ki ((d + 1) * 86400000000)]) (w.heap.size + 1) [vi ki 0, vi ki ((d + 1) * 86400000000)]) := (K1.out.at (w.heap.size + 1) [vi ki 0, vi ki 0] (by simp)).setAll _ rfl
 have BF : Hid (Below w.heap.size w (W1.setCells (w.heap.size + 1) 0 [vi ki 0, vi ki ((d + 1) * 86400000000)])) := below_setCells (by omega) _ _ _ K1.out.1
 have y0 := XF.out.c 0 rfl
 have y1 := XF.out.c 1 rfl
 simp only [World.setCells, Nat.zero_add] at y0 y1
 clear XF
 go_wp2
 exact bodyPost_ret (v := .tuple #[.agg #[vi ki 0, vi ki ((d + 1) * 86400000000)], vi ki 0]) (by simp [results, Tryz.results66, go_sem, y0, y1]) rfl ⟨rfl, BF.out⟩
theorem rt_end_false (d : Int) (d1 : -2451507 ≤ d) (d2 : d ≤ 106751982)
  (R : Hid (∀ w : World, Calls Tryz.prog 88 #[.agg #[vi ki 0, vi ki d]] w fun r' w' => r' = zr (.bool true) ∧ Below w.heap.size w w'))
  (C : Hid (∀ w : World, Calls Tryz.prog 49 #[vi ki (d + 1)] w fun r' w' => r' = zr (.bool false) ∧ w' = w))
  (w : World) :
  Calls Tryz.prog 66 #[.agg #[vi ki 0, vi ki d], vi ki 86400000000] w fun r' w' => r' = zr (.tuple #[.agg #[vi ki 0, vi ki 0], vi ki 10]) ∧ Below w.heap.size w w' := by
 have K0 := bsn2 w [vi ki 0, vi ki d] 95 [vi ki 0, vi ki 0] 36
 go_enter Tryz.func66, Tryz.ntmps66
 go_wp2_with fail
 refine (R.out _).mono ?_
 rintro e W1 ⟨rfl, hb⟩
 have K1 := bsb K0 hb
 clear hb K0
 obtain ⟨c1_0_0, c1_0_1⟩ := (bo1 K1).c2
 obtain ⟨z1_0_0, z1_0_1⟩ := (bo1 K1).f2
 obtain ⟨c1_1_0, c1_1_1⟩ := (bo2 K1).c2
 go_wp2_with fail
 refine (C.out _).mono ?_
 rintro e W2 ⟨rfl, hw⟩
 rw [hw]
 clear hw W2
 have XF : Hid (Bx (W1.setCells (w.heap.size + 1) 0 [vi ki 0, vi ki 0]) (w.heap.size + 1) [vi ki 0, vi ki 0]) := (K1.out.at (w.heap.size + 1) [vi ki 0, vi ki 0] (by simp)).setAll _ rfl
 have BF : Hid (Below w.heap.size w (W1.setCells (w.heap.size + 1) 0 [vi ki 0, vi ki 0])) := below_setCells (by omega) _ _ _ K1.out.1
 have y0 := XF.out.c 0 rfl
 have y1 := XF.out.c 1 rfl
 simp only [World.setCells, Nat.zero_add] at y0 y1
 clear XF
 go_wp2
 exact bodyPost_ret (v := .tuple #[.agg #[vi ki 0, vi ki 0], vi ki 10]) (by simp [results, Tryz.results66, go_sem, y0, y1]) rfl ⟨rfl, BF.out⟩
theorem rt0_run (i d a b E : Int)
  (M : Hid (∀ w : World, Calls Tryz.prog 66 #[.agg #[vi ki i, vi ki d], vi ki 0] w fun r' w' => r' = zr (.tuple #[.agg #[vi ki a, vi ki b], vi ki E]) ∧ Below w.heap.size w w'))
  (w : World) :
  Calls Tryz.prog 42 #[.agg #[vi ki i, vi ki d]] w fun r' w' => r' = zr (.tuple #[.agg #[vi ki a, vi ki b], vi ki E]) ∧ Below w.heap.size w w' := by
 have K0 := bsn2 w [vi ki i, vi ki d] 95 [vi ki 0, vi ki 0] 36
 go_enter Tryz.func42, Tryz.ntmps42
 go_wp2_with fail
 refine (M.out _).mono ?_
 rintro e W1 ⟨rfl, hb⟩
 have K1 := bsb K0 hb
 clear hb K0
 obtain ⟨c1_0_0, c1_0_1⟩ := (bo1 K1).c2
 obtain ⟨z1_0_0, z1_0_1⟩ := (bo1 K1).f2
 obtain ⟨c1_1_0, c1_1_1⟩ := (bo2 K1).c2
 have XF : Hid (Bx (W1.setCells (w.heap.size + 1) 0 [vi ki a, vi ki b]) (w.heap.size + 1) [vi ki a, vi ki b]) := (K1.out.at (w.heap.size + 1) [vi ki 0, vi ki 0] (by simp)).setAll _ rfl
 have BF : Hid (Below w.heap.size w (W1.setCells (w.heap.size + 1) 0 [vi ki a, vi ki b])) := below_setCells (by omega) _ _ _ K1.out.1
 have y0 := XF.out.c 0 rfl
 have y1 := XF.out.c 1 rfl
 simp only [World.setCells, Nat.zero_add] at y0 y1
 clear XF
 go_wp2
 exact bodyPost_ret (v := .tuple #[.agg #[vi ki a, vi ki b], vi ki E]) (by simp [results, Tryz.results42, go_sem, y0, y1]) rfl ⟨rfl, BF.out⟩
def mkV (y m d : Int) : Int := oV (Cvl.dayV y m d) (Cvl.dayE y m d)
def mkE (y m d : Int) : Int := oE (Cvl.dayV y m d) (Cvl.dayE y m d)
theorem rmake_any (y m d : Int) (w : World) :
  Calls Tryz.prog 41 #[vi ki y, vi ki m, vi ki d] w fun r w' => r = zr (.tuple #[.agg #[vi ki 0, vi ki (mkV y m d)], vi ki (mkE y m d)]) ∧ Below w.heap.size w w' := by
 have D := Cvl.rdays_any y m d
 unfold mkV mkE
 generalize Cvl.dayV y m d = v at *
 generalize Cvl.dayE y m d = e at *
 by_cases he : e = 0
 ·subst he
  cases h : dok v
  ·rw [(o_no (.inr h)).1, (o_no (.inr h)).2]; exact rmake_false y m d v D (fun w => by rw [← h]; exact inside_any v w) w
  ·rw [(o_yes h).1, (o_yes h).2]; exact rmake_true y m d v D (fun w => by rw [← h]; exact inside_any v w) w
 ·rw [(o_no (.inl he)).1, (o_no (.inl he)).2]; exact rmake_bad y m d v e he D w
def mvI (i d : Int) : Int := if dR i d = true then i else 0
def mvV (i d v e : Int) : Int := if dR i d = true then (if i = 0 then oV v e else d) else 0
def mvE (i d v e : Int) : Int := if dR i d = true then (if i = 0 then oE v e else 0) else 1
theorem mv_no {i d : Int} (h : dR i d = false) (v e : Int) : mvI i d = 0 ∧ mvV i d v e = 0 ∧ mvE i d v e = 1 := by
 have k : ¬ dR i d = true := by rw [h]; decide
 exact ⟨if_neg k, if_neg k, if_neg k⟩
theorem mv_inf {i d : Int} (h : dR i d = true) (h0 : i ≠ 0) (v e : Int) : mvI i d = i ∧ mvV i d v e = d ∧ mvE i d v e = 0 :=
 ⟨if_pos h, by unfold mvV; rw [if_pos h, if_neg h0], by unfold mvE; rw [if_pos h, if_neg h0]⟩
theorem mv_yes {d : Int} (h : dR 0 d = true) (v e : Int) : mvI 0 d = 0 ∧ mvV 0 d v e = oV v e ∧ mvE 0 d v e = oE v e :=
 ⟨if_pos h, by unfold mvV; rw [if_pos h, if_pos rfl], by unfold mvE; rw [if_pos h, if_pos rfl]⟩
theorem day_i64 {d : Int} (h : dok d = true) : -9223372036854775808 ≤ d ∧ d ≤ 9223372036854775807 := by have := dok_yes h; omega
theorem dadd_any (i d n : Int) (h1 : -9223372036854775808 ≤ n) (h2 : n ≤ 9223372036854775807) (w : World) (hL : Cvl.Lens w) :
  Calls Tryz.prog 100 #[.agg #[vi ki i, vi ki d], vi ki n] w fun r w' => r = zr (.tuple #[.agg #[vi ki (mvI i d), vi ki (mvV i d (smV (d + n)) (smE (d + n)))], vi ki (mvE i d (smV (d + n)) (smE (d + n)))]) ∧ Below w.heap.size w w' := by
 refine dadd_run i d n _ _ _ (fun w hL => ?_) w (lens_of hL)
 cases h : dR i d
 ·obtain ⟨a, b, c⟩ := mv_no h (smV (d + n)) (smE (d + n))
  rw [a, b, c]; exact mvd_no i d n (fun w hh => by rw [← h]; exact right_any i d w hh) w (lens_of hL)
 ·by_cases h0 : i = 0
  ·subst h0
   obtain ⟨a, b, c⟩ := mv_yes h (smV (d + n)) (smE (d + n))
   rw [a, b, c]
   obtain ⟨g1, g2⟩ := day_i64 h
   exact mvd_yes d n _ _ _ _ (fun w hh => by rw [← h]; exact right_any 0 d w hh) (fun w => days_meth n d _ _ (fun w => add_any d n g1 g2 h1 h2 w) w) (fun w hh => of_any _ _ w hh) w (lens_of hL)
  ·obtain ⟨a, b, c⟩ := mv_inf h h0 (smV (d + n)) (smE (d + n))
   rw [a, b, c]; exact mvd_inf i d n h0 (fun w hh => by rw [← h]; exact right_any i d w hh) w (lens_of hL)
theorem dshift_any (i d n y m q : Int) (hq : Cv.Is d y m q) (w : World) (hL : Cvl.Lens w) :
  Calls Tryz.prog 99 #[.agg #[vi ki i, vi ki d], vi ki n] w fun r w' => r = zr (.tuple #[.agg #[vi ki (mvI i d), vi ki (mvV i d (Cvl.shV y m q n) (Cvl.shE y m q n))], vi ki (mvE i d (Cvl.shV y m q n) (Cvl.shE y m q n))]) ∧ Below w.heap.size w w' := by
 refine dshift_run i d n _ _ _ (fun w hL => ?_) w (lens_of hL)
 cases h : dR i d
 ·obtain ⟨a, b, c⟩ := mv_no h (Cvl.shV y m q n) (Cvl.shE y m q n)
  rw [a, b, c]; exact mvm_no i d n (fun w hh => by rw [← h]; exact right_any i d w hh) w (lens_of hL)
 ·by_cases h0 : i = 0
  ·subst h0
   obtain ⟨a, b, c⟩ := mv_yes h (Cvl.shV y m q n) (Cvl.shE y m q n)
   rw [a, b, c]
   exact mvm_yes d n _ _ _ _ (fun w hh => by rw [← h]; exact right_any 0 d w hh) (fun w hh => months_meth n d _ _ (fun w hh => Cvl.shift_any d y m q n (can_dok h) hq w hh) w (lens_of hh)) (fun w hh => of_any _ _ w hh) w (lens_of hL)
  ·obtain ⟨a, b, c⟩ := mv_inf h h0 (Cvl.shV y m q n) (Cvl.shE y m q n)
   rw [a, b, c]; exact mvm_inf i d n h0 (fun w hh => by rw [← h]; exact right_any i d w hh) w (lens_of hL)
def spV (i a j b : Int) : Int := if sR i a = true ∧ sR j b = true then ordV i j a b else 0
theorem ord_1 {i j : Int} (h : i < j) (a b : Int) : ordV i j a b = -1 := if_pos (.inl h)
theorem ord_2 {a b : Int} (h : a < b) (i : Int) : ordV i i a b = -1 := if_pos (.inr ⟨rfl, h⟩)
theorem ord_3 {i j : Int} (h : j < i) (a b : Int) : ordV i j a b = 1 := by unfold ordV; rw [if_neg (by omega), if_pos (.inl h)]
theorem ord_4 {a b : Int} (h : b < a) (i : Int) : ordV i i a b = 1 := by unfold ordV; rw [if_neg (by omega), if_pos (.inr h)]
theorem ord_5 (a i : Int) : ordV i i a a = 0 := by unfold ordV; rw [if_neg (by omega), if_neg (by omega)]
theorem scmp_any (i a j b : Int) (a1 : -9223372036854775808 ≤ a) (a2 : a ≤ 9223372036854775807) (b1 : -9223372036854775808 ≤ b) (b2 : b ≤ 9223372036854775807) (w : World) (hL : Cvl.Lens w) :
  Calls Tryz.prog 62 #[.agg #[vi ki i, vi ki a], .agg #[vi ki j, vi ki b]] w fun r w' => r = zr (vi ki (spV i a j b)) ∧ Below w.heap.size w w' := by
 unfold spV
 cases h : sR i a
 ·rw [if_neg (fun q => absurd q.1 (by decide))]; exact scmp_no1 i a j b (fun w hh => by rw [← h]; exact rst_any i a a1 a2 w hh) w (lens_of hL)
 ·cases k : sR j b
  ·rw [if_neg (fun q => absurd q.2 (by decide))]; exact scmp_no2 i a j b (fun w hh => by rw [← h]; exact rst_any i a a1 a2 w hh) (fun w hh => by rw [← k]; exact rst_any j b b1 b2 w hh) w (lens_of hL)
  ·rw [if_pos ⟨rfl, rfl⟩]
   rcases Int.lt_trichotomy i j with q | q | q
   ·rw [ord_1 q]; exact scmp_1 i a j b q (fun w hh => by rw [← h]; exact rst_any i a a1 a2 w hh) (fun w hh => by rw [← k]; exact rst_any j b b1 b2 w hh) w (lens_of hL)
   ·subst q
    rcases Int.lt_trichotomy a b with q | q | q
    ·rw [ord_2 q]; exact scmp_2 i a b q (fun w hh => by rw [← h]; exact rst_any i a a1 a2 w hh) (fun w hh => by rw [← k]; exact rst_any i b b1 b2 w hh) w (lens_of hL)
    ·subst q
     rw [ord_5]; exact scmp_5 i a (fun w hh => by rw [← h]; exact rst_any i a a1 a2 w hh) (fun w hh => by rw [← h]; exact rst_any i a a1 a2 w hh) w (lens_of hL)
    ·rw [ord_4 q]; exact scmp_4 i a b q (fun w hh => by rw [← h]; exact rst_any i a a1 a2 w hh) (fun w hh => by rw [← k]; exact rst_any i b b1 b2 w hh) w (lens_of hL)
   ·rw [ord_3 q]; exact scmp_3 i a j b q (fun w hh => by rw [← h]; exact rst_any i a a1 a2 w hh) (fun w hh => by rw [← k]; exact rst_any j b b1 b2 w hh) w (lens_of hL)
theorem rscmp_any (i a j b : Int) (a1 : -9223372036854775808 ≤ a) (a2 : a ≤ 9223372036854775807) (b1 : -9223372036854775808 ≤ b) (b2 : b ≤ 9223372036854775807) (w : World) :
  Calls Tryz.prog 9 #[.agg #[vi ki i, vi ki a], .agg #[vi ki j, vi ki b]] w fun r w' => r = zr (vi ki (spV i a j b)) ∧ Below w.heap.size w w' := by
 unfold spV
 cases h : sR i a
 ·rw [if_neg (fun q => absurd q.1 (by decide))]; exact rscmp_no1 i a j b (fun w => by rw [← h]; exact rrst_any i a a1 a2 w) w
 ·cases k : sR j b
  ·rw [if_neg (fun q => absurd q.2 (by decide))]; exact rscmp_no2 i a j b (fun w => by rw [← h]; exact rrst_any i a a1 a2 w) (fun w => by rw [← k]; exact rrst_any j b b1 b2 w) w
  ·rw [if_pos ⟨rfl, rfl⟩]
   exact rscmp_yes i a j b _ (fun w => by rw [← h]; exact rrst_any i a a1 a2 w) (fun w => by rw [← k]; exact rrst_any j b b1 b2 w) (fun w => order_any i j a b w) w
def ofI (i u : Int) : Int := if sR i u = true then i else 0
def ofD (i u : Int) : Int := if sR i u = true ∧ i = 0 then u / 86400000000 else 0
def ofU (i u : Int) : Int := if sR i u = true ∧ i = 0 then u % 86400000000 else 0
def ofE (i u : Int) : Int := if sR i u = true then 0 else 1
theorem sof_any (i u : Int) (u1 : -9223372036854775808 ≤ u) (u2 : u ≤ 9223372036854775807) (w : World) (hL : Cvl.Lens w) :
  Calls Tryz.prog 98 #[.agg #[vi ki i, vi ki u]] w fun r w' => r = zr (.tuple #[.agg #[vi ki (ofI i u), vi ki (ofD i u)], vi ki (ofU i u), vi ki (ofE i u)]) ∧ Below w.heap.size w w' := by
 unfold ofI ofD ofU ofE
 cases h : sR i u
 ·rw [if_neg (by decide), if_neg (fun q => absurd q.1 (by decide)), if_neg (fun q => absurd q.1 (by decide)), if_neg (by decide)]; exact sof_no i u (fun w hh => by rw [← h]; exact rst_any i u u1 u2 w hh) w (lens_of hL)
 ·by_cases h0 : i = 0
  ·subst h0
   rw [if_pos rfl, if_pos ⟨rfl, rfl⟩, if_pos ⟨rfl, rfl⟩, if_pos rfl]; exact sof_yes u _ _ (fun w hh => by rw [← h]; exact rst_any 0 u u1 u2 w hh) (fun w => split_any u u1 u2 w) w (lens_of hL)
  ·rw [if_pos rfl, if_neg (fun q => h0 q.2), if_neg (fun q => h0 q.2), if_pos rfl]; exact sof_inf i u h0 (fun w hh => by rw [← h]; exact rst_any i u u1 u2 w hh) w (lens_of hL)
def stR (i d u : Int) : Prop := dR i d = true ∧ 0 ≤ u ∧ u ≤ 86400000000
instance (i d u : Int) : Decidable (stR i d u) := by unfold stR; infer_instance
def stI (i d u : Int) : Int := if stR i d u then i else 0
def stV (i d u : Int) : Int := if stR i d u ∧ i = 0 ∧ dok ((d * 86400000000 + u) / 86400000000) = true then d * 86400000000 + u else 0
def stE (i d u : Int) : Int := if stR i d u then (if i = 0 ∧ dok ((d * 86400000000 + u) / 86400000000) = false then 10 else 0) else 1
theorem st_bd {d u : Int} (h : dok d = true) (h0 : 0 ≤ u) (h1 : u ≤ 86400000000) : -9223372036854775808 ≤ d * 86400000000 + u ∧ d * 86400000000 + u ≤ 9223372036854775807 := by have := dok_yes h; omega
theorem st_not {i d u : Int} (h : ¬ stR i d u) : stI i d u = 0 ∧ stV i d u = 0 ∧ stE i d u = 1 := ⟨if_neg h, if_neg (fun k => h k.1), if_neg h⟩
theorem st_infs {i d u : Int} (h : stR i d u) (h0 : i ≠ 0) : stI i d u = i ∧ stV i d u = 0 ∧ stE i d u = 0 :=
 ⟨if_pos h, if_neg (fun k => h0 k.2.1), by unfold stE; rw [if_pos h, if_neg (fun k => h0 k.1)]⟩
theorem st_in {d u : Int} (h : stR 0 d u) (hk : dok ((d * 86400000000 + u) / 86400000000) = true) : stI 0 d u = 0 ∧ stV 0 d u = d * 86400000000 + u ∧ stE 0 d u = 0 :=
 ⟨if_pos h, if_pos ⟨h, rfl, hk⟩, by unfold stE; rw [if_pos h, if_neg (fun k => by rw [hk] at k; exact absurd k.2 (by decide))]⟩
theorem st_out {d u : Int} (h : stR 0 d u) (hk : dok ((d * 86400000000 + u) / 86400000000) = false) : stI 0 d u = 0 ∧ stV 0 d u = 0 ∧ stE 0 d u = 10 :=
 ⟨if_pos h, if_neg (fun k => by rw [hk] at k; exact absurd k.2.2 (by decide)), by unfold stE; rw [if_pos h, if_pos ⟨rfl, hk⟩]⟩
theorem stamp_any (i d u : Int) (w : World) (hL : Cvl.Lens w) :
  Calls Tryz.prog 101 #[.agg #[vi ki i, vi ki d], vi ki u] w fun r w' => r = zr (.tuple #[.agg #[vi ki (stI i d u), vi ki (stV i d u)], vi ki (stE i d u)]) ∧ Below w.heap.size w w' := by
 have RR : ∀ c, dR i d = c → Hid (∀ w : World, Cvl.Lens w → Calls Tryz.prog 117 #[.agg #[vi ki i, vi ki d]] w fun r w' => r = zr (.bool c) ∧ Below w.heap.size w w') := fun c hc w hh => by rw [← hc]; exact right_any i d w hh
 by_cases hs : stR i d u
 ·by_cases h0 : i = 0
  ·subst h0
   have hd : dok d = true := hs.1
   obtain ⟨g1, g2⟩ := dok_yes hd
   obtain ⟨b1, b2⟩ := st_bd hd hs.2.1 hs.2.2
   cases hk : dok ((d * 86400000000 + u) / 86400000000)
   ·obtain ⟨a, b, c⟩ := st_out hs hk
    rw [a, b, c]; exact st_false d u g1 g2 (by have := hs.2.1; omega) (by have := hs.2.2; omega) (RR true hs.1) (fun w hh => by have R := rst_any 0 (d * 86400000000 + u) b1 b2 w hh; rw [sR_0, hk] at R; exact R) w (lens_of hL)
   ·obtain ⟨a, b, c⟩ := st_in hs hk
    rw [a, b, c]; exact st_true d u g1 g2 (by have := hs.2.1; omega) (by have := hs.2.2; omega) (RR true hs.1) (fun w hh => by have R := rst_any 0 (d * 86400000000 + u) b1 b2 w hh; rw [sR_0, hk] at R; exact R) w (lens_of hL)
  ·obtain ⟨a, b, c⟩ := st_infs hs h0
   rw [a, b, c]; exact st_inf i d u h0 (by have := hs.2.1; omega) (by have := hs.2.2; omega) (RR true hs.1) w (lens_of hL)
 ·obtain ⟨a, b, c⟩ := st_not hs
  rw [a, b, c]
  cases h : dR i d
  ·exact st_no i d u (RR false h) w (lens_of hL)
  ·by_cases h1 : u < 0
   ·exact st_neg i d u h1 (RR true h) w (lens_of hL)
   ·exact st_big i d u (by unfold stR at hs; have : ¬ (0 ≤ u ∧ u ≤ 86400000000) := fun k => hs ⟨h, k⟩; omega) (RR true h) w (lens_of hL)
theorem rstamp_any (i d u : Int) (w : World) :
  Calls Tryz.prog 66 #[.agg #[vi ki i, vi ki d], vi ki u] w fun r w' => r = zr (.tuple #[.agg #[vi ki (stI i d u), vi ki (stV i d u)], vi ki (stE i d u)]) ∧ Below w.heap.size w w' := by
 have RR : ∀ c, dR i d = c → Hid (∀ w : World, Calls Tryz.prog 88 #[.agg #[vi ki i, vi ki d]] w fun r w' => r = zr (.bool c) ∧ Below w.heap.size w w') := fun c hc w => by rw [← hc]; exact rright_any i d w
 by_cases hs : stR i d u
 ·by_cases h0 : i = 0
  ·subst h0
   have hd : dok d = true := hs.1
   obtain ⟨g1, g2⟩ := dok_yes hd
   by_cases hu : u = 86400000000
   ·subst hu
    have e1 : (d * 86400000000 + 86400000000) / 86400000000 = d + 1 := by omega
    have e2 : d * 86400000000 + 86400000000 = (d + 1) * 86400000000 := by omega
    cases hk : dok (d + 1)
    ·obtain ⟨a, b, c⟩ := st_out hs (by rw [e1]; exact hk)
     rw [a, b, c]; exact rt_end_false d g1 g2 (RR true hs.1) (fun w => by rw [← hk]; exact inside_any (d + 1) w) w
    ·obtain ⟨a, b, c⟩ := st_in hs (by rw [e1]; exact hk)
     rw [a, b, c, e2]; exact rt_end_true d g1 g2 (RR true hs.1) (fun w => by rw [← hk]; exact inside_any (d + 1) w) w
   ·have e1 : (d * 86400000000 + u) / 86400000000 = d := by have := hs.2; omega
    obtain ⟨a, b, c⟩ := st_in hs (by rw [e1]; exact hd)
    rw [a, b, c]; exact rt_true d u g1 g2 (by have := hs.2.1; omega) (by have := hs.2.2; omega) (RR true hs.1) (fun w => by rw [← hd]; exact inside_any d w) w
  ·obtain ⟨a, b, c⟩ := st_infs hs h0
   rw [a, b, c]; exact rt_inf i d u h0 (by have := hs.2.1; omega) (by have := hs.2.2; omega) (RR true hs.1) w
 ·obtain ⟨a, b, c⟩ := st_not hs
  rw [a, b, c]
  cases h : dR i d
  ·exact rt_no i d u (RR false h) w
  ·by_cases h1 : u < 0
   ·exact rt_neg i d u h1 (RR true h) w
   ·exact rt_big i d u (by unfold stR at hs; have : ¬ (0 ≤ u ∧ u ≤ 86400000000) := fun k => hs ⟨h, k⟩; omega) (RR true h) w
theorem rstart_any (i d : Int) (w : World) :
  Calls Tryz.prog 42 #[.agg #[vi ki i, vi ki d]] w fun r w' => r = zr (.tuple #[.agg #[vi ki (stI i d 0), vi ki (stV i d 0)], vi ki (stE i d 0)]) ∧ Below w.heap.size w w' :=
 rt0_run i d _ _ _ (fun w => rstamp_any i d 0 w) w
end Go.Proofs.YtpdmndlpgjjopaaGreatDoor.Dy
namespace Go.Proofs.YtpdmndlpgjjopaaGreatDoor
open Go.RowKit
theorem sec_run (i u q e : Int) (q1 : -10000000000000 ≤ q) (q2 : q ≤ 10000000000000)
  (D : Hid (∀ w : World, Calls Tryz.prog 58 #[vi ki u, vi ki 1000000] w fun r' w' => r' = zr (.tuple #[vi ki q, vi ki e]) ∧ w' = w))
  (w : World) :
  Calls Tryz.prog 78 #[.agg #[vi ki i, vi ki u]] w fun r' w' => r' = zr (vi ki (q + 946684800)) ∧ Below w.heap.size w w' := by
 have K0 := bsn1 w [vi ki i, vi ki u] 36
 go_enter Tryz.func78, Tryz.ntmps78
 go_wp2_with fail
 refine (D.out _).mono ?_
 rintro e W1 ⟨rfl, rfl⟩
 go_wp2
 go_ret
 exact ⟨rfl, K0.out.1⟩
theorem more_bad (i u n v e : Int) (he : e ≠ 0)
  (D : Hid (∀ w : World, Calls Tryz.prog 55 #[vi ki u, vi ki n] w fun r' w' => r' = zr (.tuple #[vi ki v, vi ki e]) ∧ w' = w))
  (w : World) :
  Calls Tryz.prog 30 #[.agg #[vi ki i, vi ki u], vi ki n] w fun r' w' => r' = zr (.tuple #[.agg #[vi ki 0, vi ki 0], vi ki 10]) ∧ Below w.heap.size w w' := by
 have e1 : (e != 0) = true := bne_iff_ne.2 he
 have K0 := bsn2 w [vi ki i, vi ki u] 36 [vi ki 0, vi ki 0] 36
 go_enter Tryz.func30, Tryz.ntmps30
 go_wp2_with fail
 refine (D.out _).mono ?_
 rintro e W1 ⟨rfl, rfl⟩
 go_wp2
 exact bodyPost_ret (v := .tuple #[.agg #[vi ki 0, vi ki 0], vi ki 10]) (by simp [results, Tryz.results30, go_sem]) rfl ⟨rfl, (by repeat' (first | assumption | exact Below.refl _ _ | exact Nat.le_refl _ | refine Below.alloc ?_ ?_ _ | (simp; done) | (simp; omega) | omega))⟩
theorem more_true (i u n v : Int)
  (D : Hid (∀ w : World, Calls Tryz.prog 55 #[vi ki u, vi ki n] w fun r' w' => r' = zr (.tuple #[vi ki v, vi ki 0]) ∧ w' = w))
  (R : Hid (∀ w : World, Cvl.Lens w → Calls Tryz.prog 17 #[.agg #[vi ki 0, vi ki v]] w fun r' w' => r' = zr (.bool true) ∧ Below w.heap.size w w'))
  (w : World) (hL : Hid (∀ W : World, Below w.heap.size w W → Cvl.Lens W)) :
  Calls Tryz.prog 30 #[.agg #[vi ki i, vi ki u], vi ki n] w fun r' w' => r' = zr (.tuple #[.agg #[vi ki 0, vi ki v], vi ki 0]) ∧ Below w.heap.size w w' := by
 have K0 := bsn2 w [vi ki i, vi ki u] 36 [vi ki 0, vi ki 0] 36
 go_enter Tryz.func30, Tryz.ntmps30
 go_wp2_with fail
 refine (D.out _).mono ?_
 rintro e W1 ⟨rfl, rfl⟩
 go_wp2_with fail
 refine (R.out _ (hL.out _ K0.out.1)).mono ?_
 rintro e W2 ⟨rfl, hb⟩
 have K2 := bsb K0 hb
 clear hb K0
 obtain ⟨c2_0_0, c2_0_1⟩ := (bo1 K2).c2
 obtain ⟨z2_0_0, z2_0_1⟩ := (bo1 K2).f2
 obtain ⟨c2_1_0, c2_1_1⟩ := (bo2 K2).c2
 have XF : Hid (Bx (W2.setCells (w.heap.size + 1) 0 [vi ki 0, vi ki v]) (w.heap.size + 1) [vi ki 0, vi ki v]) := (K2.out.at (w.heap.size + 1) [vi ki 0, vi ki 0] (by simp)).setAll _ rfl
 have BF : Hid (Below w.heap.size w (W2.setCells (w.heap.size + 1) 0 [vi ki 0, vi ki v])) := below_setCells (by omega) _ _ _ K2.out.1
 have y0 := XF.out.c 0 rfl
 have y1 := XF.out.c 1 rfl
 simp only [World.setCells, Nat.zero_add] at y0 y1
 clear XF
 go_wp2
 exact bodyPost_ret (v := .tuple #[.agg #[vi ki 0, vi ki v], vi ki 0]) (by simp [results, Tryz.results30, go_sem, y0, y1]) rfl ⟨rfl, BF.out⟩
theorem more_false (i u n v : Int)
  (D : Hid (∀ w : World, Calls Tryz.prog 55 #[vi ki u, vi ki n] w fun r' w' => r' = zr (.tuple #[vi ki v, vi ki 0]) ∧ w' = w))
  (R : Hid (∀ w : World, Cvl.Lens w → Calls Tryz.prog 17 #[.agg #[vi ki 0, vi ki v]] w fun r' w' => r' = zr (.bool false) ∧ Below w.heap.size w w'))
  (w : World) (hL : Hid (∀ W : World, Below w.heap.size w W → Cvl.Lens W)) :
  Calls Tryz.prog 30 #[.agg #[vi ki i, vi ki u], vi ki n] w fun r' w' => r' = zr (.tuple #[.agg #[vi ki 0, vi ki 0], vi ki 10]) ∧ Below w.heap.size w w' := by
 have K0 := bsn2 w [vi ki i, vi ki u] 36 [vi ki 0, vi ki 0] 36
 go_enter Tryz.func30, Tryz.ntmps30
 go_wp2_with fail
 refine (D.out _).mono ?_
 rintro e W1 ⟨rfl, rfl⟩
 go_wp2_with fail
 refine (R.out _ (hL.out _ K0.out.1)).mono ?_
 rintro e W2 ⟨rfl, hb⟩
 have K2 := bsb K0 hb
 clear hb K0
 obtain ⟨c2_0_0, c2_0_1⟩ := (bo1 K2).c2
 obtain ⟨z2_0_0, z2_0_1⟩ := (bo1 K2).f2
 obtain ⟨c2_1_0, c2_1_1⟩ := (bo2 K2).c2
 have XF : Hid (Bx (W2.setCells (w.heap.size + 1) 0 [vi ki 0, vi ki 0]) (w.heap.size + 1) [vi ki 0, vi ki 0]) := (K2.out.at (w.heap.size + 1) [vi ki 0, vi ki 0] (by simp)).setAll _ rfl
 have BF : Hid (Below w.heap.size w (W2.setCells (w.heap.size + 1) 0 [vi ki 0, vi ki 0])) := below_setCells (by omega) _ _ _ K2.out.1
 have y0 := XF.out.c 0 rfl
 have y1 := XF.out.c 1 rfl
 simp only [World.setCells, Nat.zero_add] at y0 y1
 clear XF
 go_wp2
 exact bodyPost_ret (v := .tuple #[.agg #[vi ki 0, vi ki 0], vi ki 10]) (by simp [results, Tryz.results30, go_sem, y0, y1]) rfl ⟨rfl, BF.out⟩
theorem dok_in {s : Int} (h : Dy.dok (s / 86400000000) = true) : -9223372036854775808 ≤ s ∧ s ≤ 9223372036854775807 := by
 unfold Dy.dok at h
 have := of_decide_eq_true h
 omega
def moV (u n : Int) : Int := if Dy.dok ((u + n) / 86400000000) = true then u + n else 0
def moE (u n : Int) : Int := if Dy.dok ((u + n) / 86400000000) = true then 0 else 10
theorem more_any (i u n : Int) (u1 : -9223372036854775808 ≤ u) (u2 : u ≤ 9223372036854775807) (n1 : -9223372036854775808 ≤ n) (n2 : n ≤ 9223372036854775807) (w : World) (hL : Cvl.Lens w) :
  Calls Tryz.prog 30 #[.agg #[vi ki i, vi ki u], vi ki n] w fun r w' => r = zr (.tuple #[.agg #[vi ki 0, vi ki (moV u n)], vi ki (moE u n)]) ∧ Below w.heap.size w w' := by
 unfold moV moE
 by_cases h : -9223372036854775808 ≤ u + n ∧ u + n ≤ 9223372036854775807
 ·have D : ∀ w : World, Calls Tryz.prog 55 #[vi ki u, vi ki n] w fun r w' => r = zr (.tuple #[vi ki (u + n), vi ki 0]) ∧ w' = w := fun w => by
   have R := add_any u n u1 u2 n1 n2 w
   rw [smV_in h.1 h.2, smE_in h.1 h.2] at R
   exact R
  have RR : ∀ w : World, Cvl.Lens w → Calls Tryz.prog 17 #[.agg #[vi ki 0, vi ki (u + n)]] w fun r w' => r = zr (.bool (Dy.dok ((u + n) / 86400000000))) ∧ Below w.heap.size w w' := fun w hw => Dy.rst_any 0 (u + n) h.1 h.2 w hw
  cases hd : Dy.dok ((u + n) / 86400000000)
  ·rw [hd] at RR; rw [if_neg (by decide), if_neg (by decide)]; exact more_false i u n (u + n) D RR w (Dy.lens_of hL)
  ·rw [hd] at RR; rw [if_pos rfl, if_pos rfl]; exact more_true i u n (u + n) D RR w (Dy.lens_of hL)
 ·have hd : ¬ Dy.dok ((u + n) / 86400000000) = true := fun q => h (dok_in q)
  rw [if_neg hd, if_neg hd]
  have R := fun w => add_any u n u1 u2 n1 n2 w
  have e10 : smE (u + n) ≠ 0 := by unfold smE; rw [if_neg h]; decide
  exact more_bad i u n _ _ e10 R w
theorem sec_any (i u : Int) (u1 : -9223372036854775808 ≤ u) (u2 : u ≤ 9223372036854775807) (w : World) :
  Calls Tryz.prog 78 #[.agg #[vi ki i, vi ki u]] w fun r w' => r = zr (vi ki (u / 1000000 + 946684800)) ∧ Below w.heap.size w w' := by
 have R := fun w => div_any u 1000000 u1 u2 (by decide) (by decide) (by decide) w
 have e : u.fdiv 1000000 = u / 1000000 := Int.fdiv_eq_ediv_of_nonneg _ (by decide)
 rw [e] at R
 have b1 : -10000000000000 ≤ u / 1000000 := by omega
 have b2 : u / 1000000 ≤ 10000000000000 := by omega
 rw [smV_in (by omega) (by omega)] at R
 exact sec_run i u _ _ b1 b2 R w
def kdV (i : Int) : Value := if i = 0 then .iface 110 (.agg #[]) else .iface 106 (vi ki i)
def tgI (i j : Int) : Int := if i = 0 then j else if j = -i then 0 else i
def tgE (i j : Int) : Int := if i = 0 then 0 else if j = -i then 10 else 0
theorem kind_any (i : Int) (w : World) : Calls Tryz.prog 28 #[vi ki i] w fun r w' => r = zr (kdV i) ∧ w' = w := by
 unfold kdV
 by_cases h : i = 0
 ·subst h
  rw [if_pos rfl]
  go_enter Tryz.func28, Tryz.ntmps28
  go_wp2
  go_ret
  exact ⟨rfl, rfl⟩
 ·have h' : (i == 0) = false := by simpa using h
  rw [if_neg h]
  go_enter Tryz.func28, Tryz.ntmps28
  go_wp2
  go_ret
  exact ⟨rfl, rfl⟩
theorem eturn_any (i : Int) (h1 : -1 ≤ i) (h2 : i ≤ 1) (w : World) : Calls Tryz.prog 50 #[vi ki i] w fun r w' => r = zr (.iface 106 (vi ki (-i))) ∧ w' = w := by
 go_enter Tryz.func50, Tryz.ntmps50
 go_wp2
 go_ret
 exact ⟨rfl, rfl⟩
theorem einf_any (i : Int) (w : World) : Calls Tryz.prog 51 #[vi ki i] w fun r w' => r = zr (vi ki i) ∧ w' = w := by
 go_enter Tryz.func51, Tryz.ntmps51
 go_wp2
 go_ret
 exact ⟨rfl, rfl⟩
theorem binf_any (w : World) : Calls Tryz.prog 176 #[.agg #[]] w fun r w' => r = zr (vi ki 0) ∧ Below w.heap.size w w' := by
 have HB : Hid (Below w.heap.size w (w.alloc (.cells #[] 110))) := (Below.refl _ _).alloc (Nat.le_refl _) _
 go_enter Tryz.func176, Tryz.ntmps176
 go_wp2
 go_ret
 exact ⟨rfl, HB.out⟩
theorem tog_mm (w : World) : Calls Tryz.prog 27 #[.iface 106 (vi ki (-1)), .iface 106 (vi ki (-1))] w fun r w' => r = zr (.tuple #[vi ki (-1), vi ki 0]) ∧ Below w.heap.size w w' := by
 have hta : ∀ w : World, (Instr.typeAssert (.iface 106 (vi ki (-1))) 81 106 true).run Tryz.prog w = .ok (.tuple #[vi ki (-1), .bool true]) w := fun w => by kernel_rfl
 have C : Hid (∀ w : World, Calls Tryz.prog 50 #[vi ki (-1)] w fun r w' => r = zr (.iface 106 (vi ki 1)) ∧ w' = w) := fun w => eturn_any (-1) (by decide) (by decide) w
 have C2 : Hid (∀ w : World, Calls Tryz.prog 51 #[vi ki (-1)] w fun r w' => r = zr (vi ki (-1)) ∧ w' = w) := fun w => einf_any (-1) w
 have heq : ∀ w : World, (binOp .eql 81 (.iface 106 (vi ki (-1))) (.iface 106 (vi ki 1))).run Tryz.prog w = .ok (.bool false) w := fun w => by kernel_rfl
 go_enter Tryz.func27, Tryz.ntmps27
 go_wp2_with fail
 refine (C.out _).mono ?_
 rintro e W1 ⟨rfl, rfl⟩
 go_wp2_with fail
 refine (C2.out _).mono ?_
 rintro e W2 ⟨rfl, rfl⟩
 go_wp2
 go_ret2
 exact ⟨rfl, Below.refl _ _⟩
theorem tog_mz (w : World) : Calls Tryz.prog 27 #[.iface 106 (vi ki (-1)), .iface 110 (.agg #[])] w fun r w' => r = zr (.tuple #[vi ki (-1), vi ki 0]) ∧ Below w.heap.size w w' := by
 have hta : ∀ w : World, (Instr.typeAssert (.iface 106 (vi ki (-1))) 81 106 true).run Tryz.prog w = .ok (.tuple #[vi ki (-1), .bool true]) w := fun w => by kernel_rfl
 have C : Hid (∀ w : World, Calls Tryz.prog 50 #[vi ki (-1)] w fun r w' => r = zr (.iface 106 (vi ki 1)) ∧ w' = w) := fun w => eturn_any (-1) (by decide) (by decide) w
 have C2 : Hid (∀ w : World, Calls Tryz.prog 51 #[vi ki (-1)] w fun r w' => r = zr (vi ki (-1)) ∧ w' = w) := fun w => einf_any (-1) w
 have heq : ∀ w : World, (binOp .eql 81 (.iface 110 (.agg #[])) (.iface 106 (vi ki 1))).run Tryz.prog w = .ok (.bool false) w := fun w => by kernel_rfl
 go_enter Tryz.func27, Tryz.ntmps27
 go_wp2_with fail
 refine (C.out _).mono ?_
 rintro e W1 ⟨rfl, rfl⟩
 go_wp2_with fail
 refine (C2.out _).mono ?_
 rintro e W2 ⟨rfl, rfl⟩
 go_wp2
 go_ret2
 exact ⟨rfl, Below.refl _ _⟩
theorem tog_mp (w : World) : Calls Tryz.prog 27 #[.iface 106 (vi ki (-1)), .iface 106 (vi ki 1)] w fun r w' => r = zr (.tuple #[vi ki 0, vi ki 10]) ∧ Below w.heap.size w w' := by
 have hta : ∀ w : World, (Instr.typeAssert (.iface 106 (vi ki (-1))) 81 106 true).run Tryz.prog w = .ok (.tuple #[vi ki (-1), .bool true]) w := fun w => by kernel_rfl
 have C : Hid (∀ w : World, Calls Tryz.prog 50 #[vi ki (-1)] w fun r w' => r = zr (.iface 106 (vi ki 1)) ∧ w' = w) := fun w => eturn_any (-1) (by decide) (by decide) w
 have C2 : Hid (∀ w : World, Calls Tryz.prog 51 #[vi ki (-1)] w fun r w' => r = zr (vi ki (-1)) ∧ w' = w) := fun w => einf_any (-1) w
 have heq : ∀ w : World, (binOp .eql 81 (.iface 106 (vi ki 1)) (.iface 106 (vi ki 1))).run Tryz.prog w = .ok (.bool true) w := fun w => by kernel_rfl
 go_enter Tryz.func27, Tryz.ntmps27
 go_wp2_with fail
 refine (C.out _).mono ?_
 rintro e W1 ⟨rfl, rfl⟩
 go_wp2
 go_ret2
 exact ⟨rfl, Below.refl _ _⟩
theorem tog_zm (w : World) : Calls Tryz.prog 27 #[.iface 110 (.agg #[]), .iface 106 (vi ki (-1))] w fun r w' => r = zr (.tuple #[vi ki (-1), vi ki 0]) ∧ Below w.heap.size w w' := by
 have hta : ∀ w : World, (Instr.typeAssert (.iface 110 (.agg #[])) 81 106 true).run Tryz.prog w = .ok (.tuple #[vi ki 0, .bool false]) w := fun w => by kernel_rfl
 have C : Hid (∀ w : World, Calls Tryz.prog 51 #[vi ki (-1)] w fun r w' => r = zr (vi ki (-1)) ∧ Below w.heap.size w w') := fun w => (einf_any (-1) w).mono (fun r w2 h => ⟨h.1, by rw [h.2]; exact Below.refl _ _⟩)
 have hE : ∀ args w, (callFunc 51 args).run Tryz.prog w = .ok (.enter 51 args) w := enters_of Tryz.func51 (by kernel_rfl) rfl
 go_enter Tryz.func27, Tryz.ntmps27
 go_wp2_with fail
 refine (C.out _).mono ?_
 rintro e W1 ⟨rfl, hb⟩
 have HB : Hid (Below w.heap.size w W1) := hb
 clear hb
 go_wp2
 go_ret2
 exact ⟨rfl, HB.out⟩
theorem tog_zz (w : World) : Calls Tryz.prog 27 #[.iface 110 (.agg #[]), .iface 110 (.agg #[])] w fun r w' => r = zr (.tuple #[vi ki 0, vi ki 0]) ∧ Below w.heap.size w w' := by
 have hta : ∀ w : World, (Instr.typeAssert (.iface 110 (.agg #[])) 81 106 true).run Tryz.prog w = .ok (.tuple #[vi ki 0, .bool false]) w := fun w => by kernel_rfl
 have C : Hid (∀ w : World, Calls Tryz.prog 176 #[.agg #[]] w fun r w' => r = zr (vi ki 0) ∧ Below w.heap.size w w') := fun w => binf_any w
 have hE : ∀ args w, (callFunc 176 args).run Tryz.prog w = .ok (.enter 176 args) w := enters_of Tryz.func176 (by kernel_rfl) rfl
 go_enter Tryz.func27, Tryz.ntmps27
 go_wp2_with fail
 refine (C.out _).mono ?_
 rintro e W1 ⟨rfl, hb⟩
 have HB : Hid (Below w.heap.size w W1) := hb
 clear hb
 go_wp2
 go_ret2
 exact ⟨rfl, HB.out⟩
theorem tog_zp (w : World) : Calls Tryz.prog 27 #[.iface 110 (.agg #[]), .iface 106 (vi ki 1)] w fun r w' => r = zr (.tuple #[vi ki 1, vi ki 0]) ∧ Below w.heap.size w w' := by
 have hta : ∀ w : World, (Instr.typeAssert (.iface 110 (.agg #[])) 81 106 true).run Tryz.prog w = .ok (.tuple #[vi ki 0, .bool false]) w := fun w => by kernel_rfl
 have C : Hid (∀ w : World, Calls Tryz.prog 51 #[vi ki 1] w fun r w' => r = zr (vi ki 1) ∧ Below w.heap.size w w') := fun w => (einf_any 1 w).mono (fun r w2 h => ⟨h.1, by rw [h.2]; exact Below.refl _ _⟩)
 have hE : ∀ args w, (callFunc 51 args).run Tryz.prog w = .ok (.enter 51 args) w := enters_of Tryz.func51 (by kernel_rfl) rfl
 go_enter Tryz.func27, Tryz.ntmps27
 go_wp2_with fail
 refine (C.out _).mono ?_
 rintro e W1 ⟨rfl, hb⟩
 have HB : Hid (Below w.heap.size w W1) := hb
 clear hb
 go_wp2
 go_ret2
 exact ⟨rfl, HB.out⟩
theorem tog_pm (w : World) : Calls Tryz.prog 27 #[.iface 106 (vi ki 1), .iface 106 (vi ki (-1))] w fun r w' => r = zr (.tuple #[vi ki 0, vi ki 10]) ∧ Below w.heap.size w w' := by
 have hta : ∀ w : World, (Instr.typeAssert (.iface 106 (vi ki 1)) 81 106 true).run Tryz.prog w = .ok (.tuple #[vi ki 1, .bool true]) w := fun w => by kernel_rfl
 have C : Hid (∀ w : World, Calls Tryz.prog 50 #[vi ki 1] w fun r w' => r = zr (.iface 106 (vi ki (-1))) ∧ w' = w) := fun w => eturn_any 1 (by decide) (by decide) w
 have C2 : Hid (∀ w : World, Calls Tryz.prog 51 #[vi ki 1] w fun r w' => r = zr (vi ki 1) ∧ w' = w) := fun w => einf_any 1 w
 have heq : ∀ w : World, (binOp .eql 81 (.iface 106 (vi ki (-1))) (.iface 106 (vi ki (-1)))).run Tryz.prog w = .ok (.bool true) w := fun w => by kernel_rfl
 go_enter Tryz.func27, Tryz.ntmps27
 go_wp2_with fail
 refine (C.out _).mono ?_
 rintro e W1 ⟨rfl, rfl⟩
 go_wp2
 go_ret2
 exact ⟨rfl, Below.refl _ _⟩
theorem tog_pz (w : World) : Calls Tryz.prog 27 #[.iface 106 (vi ki 1), .iface 110 (.agg #[])] w fun r w' => r = zr (.tuple #[vi ki 1, vi ki 0]) ∧ Below w.heap.size w w' := by
 have hta : ∀ w : World, (Instr.typeAssert (.iface 106 (vi ki 1)) 81 106 true).run Tryz.prog w = .ok (.tuple #[vi ki 1, .bool true]) w := fun w => by kernel_rfl
 have C : Hid (∀ w : World, Calls Tryz.prog 50 #[vi ki 1] w fun r w' => r = zr (.iface 106 (vi ki (-1))) ∧ w' = w) := fun w => eturn_any 1 (by decide) (by decide) w
 have C2 : Hid (∀ w : World, Calls Tryz.prog 51 #[vi ki 1] w fun r w' => r = zr (vi ki 1) ∧ w' = w) := fun w => einf_any 1 w
 have heq : ∀ w : World, (binOp .eql 81 (.iface 110 (.agg #[])) (.iface 106 (vi ki (-1)))).run Tryz.prog w = .ok (.bool false) w := fun w => by kernel_rfl
 go_enter Tryz.func27, Tryz.ntmps27
 go_wp2_with fail
 refine (C.out _).mono ?_
 rintro e W1 ⟨rfl, rfl⟩
 go_wp2_with fail
 refine (C2.out _).mono ?_
 rintro e W2 ⟨rfl, rfl⟩
 go_wp2
 go_ret2
 exact ⟨rfl, Below.refl _ _⟩
theorem tog_pp (w : World) : Calls Tryz.prog 27 #[.iface 106 (vi ki 1), .iface 106 (vi ki 1)] w fun r w' => r = zr (.tuple #[vi ki 1, vi ki 0]) ∧ Below w.heap.size w w' := by
 have hta : ∀ w : World, (Instr.typeAssert (.iface 106 (vi ki 1)) 81 106 true).run Tryz.prog w = .ok (.tuple #[vi ki 1, .bool true]) w := fun w => by kernel_rfl
 have C : Hid (∀ w : World, Calls Tryz.prog 50 #[vi ki 1] w fun r w' => r = zr (.iface 106 (vi ki (-1))) ∧ w' = w) := fun w => eturn_any 1 (by decide) (by decide) w
 have C2 : Hid (∀ w : World, Calls Tryz.prog 51 #[vi ki 1] w fun r w' => r = zr (vi ki 1) ∧ w' = w) := fun w => einf_any 1 w
 have heq : ∀ w : World, (binOp .eql 81 (.iface 106 (vi ki 1)) (.iface 106 (vi ki (-1)))).run Tryz.prog w = .ok (.bool false) w := fun w => by kernel_rfl
 go_enter Tryz.func27, Tryz.ntmps27
 go_wp2_with fail
 refine (C.out _).mono ?_
 rintro e W1 ⟨rfl, rfl⟩
 go_wp2_with fail
 refine (C2.out _).mono ?_
 rintro e W2 ⟨rfl, rfl⟩
 go_wp2
 go_ret2
 exact ⟨rfl, Below.refl _ _⟩
theorem tog_any (i j : Int) (hi : i = -1 ∨ i = 0 ∨ i = 1) (hj : j = -1 ∨ j = 0 ∨ j = 1) (w : World) : Calls Tryz.prog 27 #[kdV i, kdV j] w fun r w' => r = zr (.tuple #[vi ki (tgI i j), vi ki (tgE i j)]) ∧ Below w.heap.size w w' := by
 rcases hi with rfl | rfl | rfl <;> rcases hj with rfl | rfl | rfl
 ·exact tog_mm w
 ·exact tog_mz w
 ·exact tog_mp w
 ·exact tog_zm w
 ·exact tog_zz w
 ·exact tog_zp w
 ·exact tog_pm w
 ·exact tog_pz w
 ·exact tog_pp w
end Go.Proofs.YtpdmndlpgjjopaaGreatDoor
namespace Go.Proofs.YtpdmndlpgjjopaaGreatDoor.Sp
open Go.RowKit
theorem ret_bool {a b : Bool} (h : a = b) : Ending.returned (.bool a) = zr (.bool b) := by rw [h]
def cnt (n : Int) : Bool := decide (-2147483647 ≤ n ∧ n ≤ 2147483647)
theorem cnt_yes {n : Int} (h : cnt n = true) : -2147483647 ≤ n ∧ n ≤ 2147483647 := of_decide_eq_true h
def sgnC (a b : Int) : Int := if a < b then -1 else if b < a then 1 else 0
theorem sgnC_lt {a b : Int} (h : a < b) : sgnC a b = -1 := if_pos h
theorem sgnC_gt {a b : Int} (h : b < a) : sgnC a b = 1 := by unfold sgnC; rw [if_neg (by omega), if_pos h]
theorem sgnC_eq (a : Int) : sgnC a a = 0 := by unfold sgnC; rw [if_neg (by omega), if_neg (by omega)]
def orV (a b c : Int) : Int := if a ≠ 0 then a else if b ≠ 0 then b else c
theorem cnt_t (n : Int) (h1 : -2147483647 ≤ n) (h2 : n ≤ 2147483647)
  (w : World) :
  Calls Tryz.prog 36 #[vi ki n] w fun r' w' => r' = zr (.bool true) ∧ w' = w := by
 go_enter Tryz.func36, Tryz.ntmps36
 go_wp2
 go_ret
 exact ⟨by first | rfl | exact ret_bool (by simp; omega), rfl⟩
theorem cnt_f1 (n : Int) (h1 : ¬ -2147483647 ≤ n)
  (w : World) :
  Calls Tryz.prog 36 #[vi ki n] w fun r' w' => r' = zr (.bool false) ∧ w' = w := by
 go_enter Tryz.func36, Tryz.ntmps36
 go_wp2
 go_ret
 exact ⟨by first | rfl | exact ret_bool (by simp; omega), rfl⟩
theorem cnt_f2 (n : Int) (h1 : -2147483647 ≤ n) (h2 : ¬ n ≤ 2147483647)
  (w : World) :
  Calls Tryz.prog 36 #[vi ki n] w fun r' w' => r' = zr (.bool false) ∧ w' = w := by
 go_enter Tryz.func36, Tryz.ntmps36
 go_wp2
 go_ret
 exact ⟨by first | rfl | exact ret_bool (by simp; omega), rfl⟩
theorem isCount_any (n : Int) (w : World) : Calls Tryz.prog 36 #[vi ki n] w fun r w' => r = zr (.bool (cnt n)) ∧ w' = w := by
 unfold cnt
 by_cases h1 : -2147483647 ≤ n
 ·by_cases h2 : n ≤ 2147483647
  ·rw [decide_eq_true ⟨h1, h2⟩]; exact cnt_t n h1 h2 w
  ·rw [decide_eq_false (fun k => h2 k.2)]; exact cnt_f2 n h1 h2 w
 ·rw [decide_eq_false (fun k => h1 k.1)]; exact cnt_f1 n h1 w
theorem wit_t (n M : Int) (m1 : 0 ≤ M) (m2 : M ≤ 9223372036854775807) (h1 : -M ≤ n) (h2 : n ≤ M)
  (w : World) :
  Calls Tryz.prog 67 #[vi ki n, vi ki M] w fun r' w' => r' = zr (.bool true) ∧ w' = w := by
 go_enter Tryz.func67, Tryz.ntmps67
 go_wp2
 go_ret
 exact ⟨by first | rfl | exact ret_bool (by simp; omega), rfl⟩
theorem wit_f1 (n M : Int) (m1 : 0 ≤ M) (m2 : M ≤ 9223372036854775807) (h1 : ¬ -M ≤ n)
  (w : World) :
  Calls Tryz.prog 67 #[vi ki n, vi ki M] w fun r' w' => r' = zr (.bool false) ∧ w' = w := by
 go_enter Tryz.func67, Tryz.ntmps67
 go_wp2
 go_ret
 exact ⟨by first | rfl | exact ret_bool (by simp; omega), rfl⟩
theorem wit_f2 (n M : Int) (m1 : 0 ≤ M) (m2 : M ≤ 9223372036854775807) (h1 : -M ≤ n) (h2 : ¬ n ≤ M)
  (w : World) :
  Calls Tryz.prog 67 #[vi ki n, vi ki M] w fun r' w' => r' = zr (.bool false) ∧ w' = w := by
 go_enter Tryz.func67, Tryz.ntmps67
 go_wp2
 go_ret
 exact ⟨by first | rfl | exact ret_bool (by simp; omega), rfl⟩
theorem within_any (n M : Int) (m1 : 0 ≤ M) (m2 : M ≤ 9223372036854775807) (w : World) : Calls Tryz.prog 67 #[vi ki n, vi ki M] w fun r w' => r = zr (.bool (decide (-M ≤ n ∧ n ≤ M))) ∧ w' = w := by
 by_cases h1 : -M ≤ n
 ·by_cases h2 : n ≤ M
  ·rw [decide_eq_true ⟨h1, h2⟩]; exact wit_t n M m1 m2 h1 h2 w
  ·rw [decide_eq_false (fun k => h2 k.2)]; exact wit_f2 n M m1 m2 h1 h2 w
 ·rw [decide_eq_false (fun k => h1 k.1)]; exact wit_f1 n M m1 m2 h1 w
def pR (i m d u : Int) : Bool := if i = 0 then cnt m && (cnt d && decide (-9223372036854775807 ≤ u ∧ u ≤ 9223372036854775807)) else decide ((i = -1 ∨ i = 1) ∧ m = 0 ∧ d = 0 ∧ u = 0)
theorem pR_1 {i : Int} (h : i ≠ 0) (m d u : Int) : pR i m d u = decide ((i = -1 ∨ i = 1) ∧ m = 0 ∧ d = 0 ∧ u = 0) := if_neg h
theorem pR_0 (m d u : Int) : pR 0 m d u = (cnt m && (cnt d && decide (-9223372036854775807 ≤ u ∧ u ≤ 9223372036854775807))) := rfl
theorem pR_yes {i m d u : Int} (h : pR i m d u = true) : (i = 0 ∧ -2147483647 ≤ m ∧ m ≤ 2147483647 ∧ -2147483647 ≤ d ∧ d ≤ 2147483647 ∧ -9223372036854775807 ≤ u ∧ u ≤ 9223372036854775807) ∨ ((i = -1 ∨ i = 1) ∧ m = 0 ∧ d = 0 ∧ u = 0) := by
 by_cases h0 : i = 0
 ·subst h0
  rw [pR_0, Bool.and_eq_true, Bool.and_eq_true] at h
  obtain ⟨a, b, c⟩ := h
  exact .inl ⟨rfl, (cnt_yes a).1, (cnt_yes a).2, (cnt_yes b).1, (cnt_yes b).2, (of_decide_eq_true c).1, (of_decide_eq_true c).2⟩
 ·rw [pR_1 h0] at h
  exact .inr (of_decide_eq_true h)
theorem pr_f1 (m d u : Int)
  (C1 : Hid (∀ w : World, Calls Tryz.prog 36 #[vi ki m] w fun r' w' => r' = zr (.bool false) ∧ w' = w))
  (w : World) :
  Calls Tryz.prog 18 #[.agg #[vi ki 0, vi ki m, vi ki d, vi ki u]] w fun r' w' => r' = zr (.bool false) ∧ Below w.heap.size w w' := by
 have K0 := bsn1 w [vi ki 0, vi ki m, vi ki d, vi ki u] 38
 go_enter Tryz.func18, Tryz.ntmps18
 go_wp2_with fail
 refine (C1.out _).mono ?_
 rintro e W1 ⟨rfl, rfl⟩
 go_wp2
 go_ret
 exact ⟨rfl, K0.out.1⟩
theorem pr_f2 (m d u : Int)
  (C1 : Hid (∀ w : World, Calls Tryz.prog 36 #[vi ki m] w fun r' w' => r' = zr (.bool true) ∧ w' = w))
  (C2 : Hid (∀ w : World, Calls Tryz.prog 36 #[vi ki d] w fun r' w' => r' = zr (.bool false) ∧ w' = w))
  (w : World) :
  Calls Tryz.prog 18 #[.agg #[vi ki 0, vi ki m, vi ki d, vi ki u]] w fun r' w' => r' = zr (.bool false) ∧ Below w.heap.size w w' := by
 have K0 := bsn1 w [vi ki 0, vi ki m, vi ki d, vi ki u] 38
 go_enter Tryz.func18, Tryz.ntmps18
 go_wp2_with fail
 refine (C1.out _).mono ?_
 rintro e W1 ⟨rfl, rfl⟩
 go_wp2_with fail
 refine (C2.out _).mono ?_
 rintro e W2 ⟨rfl, rfl⟩
 go_wp2
 go_ret
 exact ⟨rfl, K0.out.1⟩
theorem pr_f3 (m d : Int)
  (C1 : Hid (∀ w : World, Calls Tryz.prog 36 #[vi ki m] w fun r' w' => r' = zr (.bool true) ∧ w' = w))
  (C2 : Hid (∀ w : World, Calls Tryz.prog 36 #[vi ki d] w fun r' w' => r' = zr (.bool true) ∧ w' = w))
  (w : World) :
  Calls Tryz.prog 18 #[.agg #[vi ki 0, vi ki m, vi ki d, vi ki (-9223372036854775808)]] w fun r' w' => r' = zr (.bool false) ∧ Below w.heap.size w w' := by
 have K0 := bsn1 w [vi ki 0, vi ki m, vi ki d, vi ki (-9223372036854775808)] 38
 go_enter Tryz.func18, Tryz.ntmps18
 go_wp2_with fail
 refine (C1.out _).mono ?_
 rintro e W1 ⟨rfl, rfl⟩
 go_wp2_with fail
 refine (C2.out _).mono ?_
 rintro e W2 ⟨rfl, rfl⟩
 go_wp2
 go_ret
 exact ⟨rfl, K0.out.1⟩
theorem pr_t (m d u : Int) (hu : u ≠ -9223372036854775808)
  (C1 : Hid (∀ w : World, Calls Tryz.prog 36 #[vi ki m] w fun r' w' => r' = zr (.bool true) ∧ w' = w))
  (C2 : Hid (∀ w : World, Calls Tryz.prog 36 #[vi ki d] w fun r' w' => r' = zr (.bool true) ∧ w' = w))
  (w : World) :
  Calls Tryz.prog 18 #[.agg #[vi ki 0, vi ki m, vi ki d, vi ki u]] w fun r' w' => r' = zr (.bool true) ∧ Below w.heap.size w w' := by
 have u1 : (u != -9223372036854775808) = true := bne_iff_ne.2 hu
 have K0 := bsn1 w [vi ki 0, vi ki m, vi ki d, vi ki u] 38
 go_enter Tryz.func18, Tryz.ntmps18
 go_wp2_with fail
 refine (C1.out _).mono ?_
 rintro e W1 ⟨rfl, rfl⟩
 go_wp2_with fail
 refine (C2.out _).mono ?_
 rintro e W2 ⟨rfl, rfl⟩
 go_wp2
 go_ret
 exact ⟨rfl, K0.out.1⟩
theorem rpr_f1 (m d u : Int)
  (C1 : Hid (∀ w : World, Calls Tryz.prog 67 #[vi ki m, vi ki 2147483647] w fun r' w' => r' = zr (.bool false) ∧ w' = w))
  (w : World) :
  Calls Tryz.prog 43 #[.agg #[vi ki 0, vi ki m, vi ki d, vi ki u]] w fun r' w' => r' = zr (.bool false) ∧ Below w.heap.size w w' := by
 have K0 := bsn1 w [vi ki 0, vi ki m, vi ki d, vi ki u] 38
 go_enter Tryz.func43, Tryz.ntmps43
 go_wp2_with fail
 refine (C1.out _).mono ?_
 rintro e W1 ⟨rfl, rfl⟩
 go_wp2
 go_ret
 exact ⟨rfl, K0.out.1⟩
theorem rpr_f2 (m d u : Int)
  (C1 : Hid (∀ w : World, Calls Tryz.prog 67 #[vi ki m, vi ki 2147483647] w fun r' w' => r' = zr (.bool true) ∧ w' = w))
  (C2 : Hid (∀ w : World, Calls Tryz.prog 67 #[vi ki d, vi ki 2147483647] w fun r' w' => r' = zr (.bool false) ∧ w' = w))
  (w : World) :
  Calls Tryz.prog 43 #[.agg #[vi ki 0, vi ki m, vi ki d, vi ki u]] w fun r' w' => r' = zr (.bool false) ∧ Below w.heap.size w w' := by
 have K0 := bsn1 w [vi ki 0, vi ki m, vi ki d, vi ki u] 38
 go_enter Tryz.func43, Tryz.ntmps43
 go_wp2_with fail
 refine (C1.out _).mono ?_
 rintro e W1 ⟨rfl, rfl⟩
 go_wp2_with fail
 refine (C2.out _).mono ?_
 rintro e W2 ⟨rfl, rfl⟩
 go_wp2
 go_ret
 exact ⟨rfl, K0.out.1⟩
theorem rpr_t (m d u : Int) (c : Bool)
  (C1 : Hid (∀ w : World, Calls Tryz.prog 67 #[vi ki m, vi ki 2147483647] w fun r' w' => r' = zr (.bool true) ∧ w' = w))
  (C2 : Hid (∀ w : World, Calls Tryz.prog 67 #[vi ki d, vi ki 2147483647] w fun r' w' => r' = zr (.bool true) ∧ w' = w))
  (C3 : Hid (∀ w : World, Calls Tryz.prog 67 #[vi ki u, vi ki 9223372036854775807] w fun r' w' => r' = zr (.bool c) ∧ w' = w))
  (w : World) :
  Calls Tryz.prog 43 #[.agg #[vi ki 0, vi ki m, vi ki d, vi ki u]] w fun r' w' => r' = zr (.bool c) ∧ Below w.heap.size w w' := by
 have K0 := bsn1 w [vi ki 0, vi ki m, vi ki d, vi ki u] 38
 go_enter Tryz.func43, Tryz.ntmps43
 go_wp2_with fail
 refine (C1.out _).mono ?_
 rintro e W1 ⟨rfl, rfl⟩
 go_wp2_with fail
 refine (C2.out _).mono ?_
 rintro e W2 ⟨rfl, rfl⟩
 go_wp2_with fail
 refine (C3.out _).mono ?_
 rintro e W3 ⟨rfl, rfl⟩
 go_wp2
 go_ret
 exact ⟨rfl, K0.out.1⟩
theorem pr_m0 
  (w : World) :
  Calls Tryz.prog 18 #[.agg #[vi ki (-1), vi ki 0, vi ki 0, vi ki 0]] w fun r' w' => r' = zr (.bool true) ∧ Below w.heap.size w w' := by
 have K0 := bsn1 w [vi ki (-1), vi ki 0, vi ki 0, vi ki 0] 38
 go_enter Tryz.func18, Tryz.ntmps18
 go_wp2
 go_ret
 exact ⟨rfl, K0.out.1⟩
theorem pr_m1 (m d u : Int) (h : m ≠ 0)
  (w : World) :
  Calls Tryz.prog 18 #[.agg #[vi ki (-1), vi ki m, vi ki d, vi ki u]] w fun r' w' => r' = zr (.bool false) ∧ Below w.heap.size w w' := by
 have h1 : (m == 0) = false := by simpa using h
 have K0 := bsn1 w [vi ki (-1), vi ki m, vi ki d, vi ki u] 38
 go_enter Tryz.func18, Tryz.ntmps18
 go_wp2
 go_ret
 exact ⟨rfl, K0.out.1⟩
theorem pr_m2 (d u : Int) (h : d ≠ 0)
  (w : World) :
  Calls Tryz.prog 18 #[.agg #[vi ki (-1), vi ki 0, vi ki d, vi ki u]] w fun r' w' => r' = zr (.bool false) ∧ Below w.heap.size w w' := by
 have h1 : (d == 0) = false := by simpa using h
 have K0 := bsn1 w [vi ki (-1), vi ki 0, vi ki d, vi ki u] 38
 go_enter Tryz.func18, Tryz.ntmps18
 go_wp2
 go_ret
 exact ⟨rfl, K0.out.1⟩
theorem pr_m3 (u : Int) (h : u ≠ 0)
  (w : World) :
  Calls Tryz.prog 18 #[.agg #[vi ki (-1), vi ki 0, vi ki 0, vi ki u]] w fun r' w' => r' = zr (.bool false) ∧ Below w.heap.size w w' := by
 have h1 : (u == 0) = false := by simpa using h
 have K0 := bsn1 w [vi ki (-1), vi ki 0, vi ki 0, vi ki u] 38
 go_enter Tryz.func18, Tryz.ntmps18
 go_wp2
 go_ret
 exact ⟨rfl, K0.out.1⟩
theorem pr_p0 
  (w : World) :
  Calls Tryz.prog 18 #[.agg #[vi ki 1, vi ki 0, vi ki 0, vi ki 0]] w fun r' w' => r' = zr (.bool true) ∧ Below w.heap.size w w' := by
 have K0 := bsn1 w [vi ki 1, vi ki 0, vi ki 0, vi ki 0] 38
 go_enter Tryz.func18, Tryz.ntmps18
 go_wp2
 go_ret
 exact ⟨rfl, K0.out.1⟩
theorem pr_p1 (m d u : Int) (h : m ≠ 0)
  (w : World) :
  Calls Tryz.prog 18 #[.agg #[vi ki 1, vi ki m, vi ki d, vi ki u]] w fun r' w' => r' = zr (.bool false) ∧ Below w.heap.size w w' := by
 have h1 : (m == 0) = false := by simpa using h
 have K0 := bsn1 w [vi ki 1, vi ki m, vi ki d, vi ki u] 38
 go_enter Tryz.func18, Tryz.ntmps18
 go_wp2
 go_ret
 exact ⟨rfl, K0.out.1⟩
theorem pr_p2 (d u : Int) (h : d ≠ 0)
  (w : World) :
  Calls Tryz.prog 18 #[.agg #[vi ki 1, vi ki 0, vi ki d, vi ki u]] w fun r' w' => r' = zr (.bool false) ∧ Below w.heap.size w w' := by
 have h1 : (d == 0) = false := by simpa using h
 have K0 := bsn1 w [vi ki 1, vi ki 0, vi ki d, vi ki u] 38
 go_enter Tryz.func18, Tryz.ntmps18
 go_wp2
 go_ret
 exact ⟨rfl, K0.out.1⟩
theorem pr_p3 (u : Int) (h : u ≠ 0)
  (w : World) :
  Calls Tryz.prog 18 #[.agg #[vi ki 1, vi ki 0, vi ki 0, vi ki u]] w fun r' w' => r' = zr (.bool false) ∧ Below w.heap.size w w' := by
 have h1 : (u == 0) = false := by simpa using h
 have K0 := bsn1 w [vi ki 1, vi ki 0, vi ki 0, vi ki u] 38
 go_enter Tryz.func18, Tryz.ntmps18
 go_wp2
 go_ret
 exact ⟨rfl, K0.out.1⟩
theorem pr_x (i m d u : Int) (h0 : i ≠ 0) (h1 : i ≠ -1) (h2 : i ≠ 1)
  (w : World) :
  Calls Tryz.prog 18 #[.agg #[vi ki i, vi ki m, vi ki d, vi ki u]] w fun r' w' => r' = zr (.bool false) ∧ Below w.heap.size w w' := by
 have g0 : (i == 0) = false := by simpa using h0
 have g9 : (i != 0) = true := bne_iff_ne.2 h0
 have g1 : (i == -1) = false := by simpa using h1
 have g2 : (i == 1) = false := by simpa using h2
 have K0 := bsn1 w [vi ki i, vi ki m, vi ki d, vi ki u] 38
 go_enter Tryz.func18, Tryz.ntmps18
 go_wp2
 go_ret
 exact ⟨rfl, K0.out.1⟩
theorem pr_any (i m d u : Int) (u1 : -9223372036854775808 ≤ u) (u2 : u ≤ 9223372036854775807) (w : World) :
  Calls Tryz.prog 18 #[.agg #[vi ki i, vi ki m, vi ki d, vi ki u]] w fun r w' => r = zr (.bool (pR i m d u)) ∧ Below w.heap.size w w' := by
 by_cases h0 : i = 0
 ·subst h0
  rw [pR_0]
  cases c1 : cnt m
  ·exact pr_f1 m d u (fun w => by rw [← c1]; exact isCount_any m w) w
  ·cases c2 : cnt d
   ·exact pr_f2 m d u (fun w => by rw [← c1]; exact isCount_any m w) (fun w => by rw [← c2]; exact isCount_any d w) w
   ·by_cases hu : u = -9223372036854775808
    ·subst hu
     exact pr_f3 m d (fun w => by rw [← c1]; exact isCount_any m w) (fun w => by rw [← c2]; exact isCount_any d w) w
    ·rw [decide_eq_true ⟨by omega, u2⟩]
     exact pr_t m d u hu (fun w => by rw [← c1]; exact isCount_any m w) (fun w => by rw [← c2]; exact isCount_any d w) w
 ·rw [pR_1 h0]
  by_cases g1 : i = -1
  ·subst g1
   by_cases a : m = 0
   ·subst a
    by_cases b : d = 0
    ·subst b
     by_cases c : u = 0
     ·subst c
      rw [decide_eq_true ⟨.inl rfl, rfl, rfl, rfl⟩]; exact pr_m0 w
     ·rw [decide_eq_false (fun q => c q.2.2.2)]; exact pr_m3 u c w
    ·rw [decide_eq_false (fun q => b q.2.2.1)]; exact pr_m2 d u b w
   ·rw [decide_eq_false (fun q => a q.2.1)]; exact pr_m1 m d u a w
  ·by_cases g2 : i = 1
   ·subst g2
    by_cases a : m = 0
    ·subst a
     by_cases b : d = 0
     ·subst b
      by_cases c : u = 0
      ·subst c
       rw [decide_eq_true ⟨.inr rfl, rfl, rfl, rfl⟩]; exact pr_p0 w
      ·rw [decide_eq_false (fun q => c q.2.2.2)]; exact pr_p3 u c w
     ·rw [decide_eq_false (fun q => b q.2.2.1)]; exact pr_p2 d u b w
    ·rw [decide_eq_false (fun q => a q.2.1)]; exact pr_p1 m d u a w
   ·rw [decide_eq_false (fun q => q.1.elim g1 g2)]; exact pr_x i m d u h0 g1 g2 w
theorem rpr_m0 
  (w : World) :
  Calls Tryz.prog 43 #[.agg #[vi ki (-1), vi ki 0, vi ki 0, vi ki 0]] w fun r' w' => r' = zr (.bool true) ∧ Below w.heap.size w w' := by
 have K0 := bsn1 w [vi ki (-1), vi ki 0, vi ki 0, vi ki 0] 38
 go_enter Tryz.func43, Tryz.ntmps43
 go_wp2
 go_ret
 exact ⟨rfl, K0.out.1⟩
theorem rpr_m1 (m d u : Int) (h : m ≠ 0)
  (w : World) :
  Calls Tryz.prog 43 #[.agg #[vi ki (-1), vi ki m, vi ki d, vi ki u]] w fun r' w' => r' = zr (.bool false) ∧ Below w.heap.size w w' := by
 have h1 : (m == 0) = false := by simpa using h
 have K0 := bsn1 w [vi ki (-1), vi ki m, vi ki d, vi ki u] 38
 go_enter Tryz.func43, Tryz.ntmps43
 go_wp2
 go_ret
 exact ⟨rfl, K0.out.1⟩
theorem rpr_m2 (d u : Int) (h : d ≠ 0)
  (w : World) :
  Calls Tryz.prog 43 #[.agg #[vi ki (-1), vi ki 0, vi ki d, vi ki u]] w fun r' w' => r' = zr (.bool false) ∧ Below w.heap.size w w' := by
 have h1 : (d == 0) = false := by simpa using h
 have K0 := bsn1 w [vi ki (-1), vi ki 0, vi ki d, vi ki u] 38
 go_enter Tryz.func43, Tryz.ntmps43
 go_wp2
 go_ret
 exact ⟨rfl, K0.out.1⟩
theorem rpr_m3 (u : Int) (h : u ≠ 0)
  (w : World) :
  Calls Tryz.prog 43 #[.agg #[vi ki (-1), vi ki 0, vi ki 0, vi ki u]] w fun r' w' => r' = zr (.bool false) ∧ Below w.heap.size w w' := by
 have h1 : (u == 0) = false := by simpa using h
 have K0 := bsn1 w [vi ki (-1), vi ki 0, vi ki 0, vi ki u] 38
 go_enter Tryz.func43, Tryz.ntmps43
 go_wp2
 go_ret
 exact ⟨rfl, K0.out.1⟩
theorem rpr_p0 
  (w : World) :
  Calls Tryz.prog 43 #[.agg #[vi ki 1, vi ki 0, vi ki 0, vi ki 0]] w fun r' w' => r' = zr (.bool true) ∧ Below w.heap.size w w' := by
 have K0 := bsn1 w [vi ki 1, vi ki 0, vi ki 0, vi ki 0] 38
 go_enter Tryz.func43, Tryz.ntmps43
 go_wp2
 go_ret
 exact ⟨rfl, K0.out.1⟩
theorem rpr_p1 (m d u : Int) (h : m ≠ 0)
  (w : World) :
  Calls Tryz.prog 43 #[.agg #[vi ki 1, vi ki m, vi ki d, vi ki u]] w fun r' w' => r' = zr (.bool false) ∧ Below w.heap.size w w' := by
 have h1 : (m == 0) = false := by simpa using h
 have K0 := bsn1 w [vi ki 1, vi ki m, vi ki d, vi ki u] 38
 go_enter Tryz.func43, Tryz.ntmps43
 go_wp2
 go_ret
 exact ⟨rfl, K0.out.1⟩
theorem rpr_p2 (d u : Int) (h : d ≠ 0)
  (w : World) :
  Calls Tryz.prog 43 #[.agg #[vi ki 1, vi ki 0, vi ki d, vi ki u]] w fun r' w' => r' = zr (.bool false) ∧ Below w.heap.size w w' := by
 have h1 : (d == 0) = false := by simpa using h
 have K0 := bsn1 w [vi ki 1, vi ki 0, vi ki d, vi ki u] 38
 go_enter Tryz.func43, Tryz.ntmps43
 go_wp2
 go_ret
 exact ⟨rfl, K0.out.1⟩
theorem rpr_p3 (u : Int) (h : u ≠ 0)
  (w : World) :
  Calls Tryz.prog 43 #[.agg #[vi ki 1, vi ki 0, vi ki 0, vi ki u]] w fun r' w' => r' = zr (.bool false) ∧ Below w.heap.size w w' := by
 have h1 : (u == 0) = false := by simpa using h
 have K0 := bsn1 w [vi ki 1, vi ki 0, vi ki 0, vi ki u] 38
 go_enter Tryz.func43, Tryz.ntmps43
 go_wp2
 go_ret
 exact ⟨rfl, K0.out.1⟩
theorem rpr_x (i m d u : Int) (h0 : i ≠ 0) (h1 : i ≠ -1) (h2 : i ≠ 1)
  (w : World) :
  Calls Tryz.prog 43 #[.agg #[vi ki i, vi ki m, vi ki d, vi ki u]] w fun r' w' => r' = zr (.bool false) ∧ Below w.heap.size w w' := by
 have g0 : (i == 0) = false := by simpa using h0
 have g9 : (i != 0) = true := bne_iff_ne.2 h0
 have g1 : (i == -1) = false := by simpa using h1
 have g2 : (i == 1) = false := by simpa using h2
 have K0 := bsn1 w [vi ki i, vi ki m, vi ki d, vi ki u] 38
 go_enter Tryz.func43, Tryz.ntmps43
 go_wp2
 go_ret
 exact ⟨rfl, K0.out.1⟩
theorem rpr_any (i m d u : Int) (u1 : -9223372036854775808 ≤ u) (u2 : u ≤ 9223372036854775807) (w : World) :
  Calls Tryz.prog 43 #[.agg #[vi ki i, vi ki m, vi ki d, vi ki u]] w fun r w' => r = zr (.bool (pR i m d u)) ∧ Below w.heap.size w w' := by
 by_cases h0 : i = 0
 ·subst h0
  rw [pR_0]
  cases c1 : cnt m
  ·exact rpr_f1 m d u (fun w => by rw [← c1]; exact within_any m 2147483647 (by decide) (by decide) w) w
  ·cases c2 : cnt d
   ·exact rpr_f2 m d u (fun w => by rw [← c1]; exact within_any m 2147483647 (by decide) (by decide) w) (fun w => by rw [← c2]; exact within_any d 2147483647 (by decide) (by decide) w) w
   ·exact rpr_t m d u _ (fun w => by rw [← c1]; exact within_any m 2147483647 (by decide) (by decide) w) (fun w => by rw [← c2]; exact within_any d 2147483647 (by decide) (by decide) w) (fun w => within_any u 9223372036854775807 (by decide) (by decide) w) w
 ·rw [pR_1 h0]
  by_cases g1 : i = -1
  ·subst g1
   by_cases a : m = 0
   ·subst a
    by_cases b : d = 0
    ·subst b
     by_cases c : u = 0
     ·subst c
      rw [decide_eq_true ⟨.inl rfl, rfl, rfl, rfl⟩]; exact rpr_m0 w
     ·rw [decide_eq_false (fun q => c q.2.2.2)]; exact rpr_m3 u c w
    ·rw [decide_eq_false (fun q => b q.2.2.1)]; exact rpr_m2 d u b w
   ·rw [decide_eq_false (fun q => a q.2.1)]; exact rpr_m1 m d u a w
  ·by_cases g2 : i = 1
   ·subst g2
    by_cases a : m = 0
    ·subst a
     by_cases b : d = 0
     ·subst b
      by_cases c : u = 0
      ·subst c
       rw [decide_eq_true ⟨.inr rfl, rfl, rfl, rfl⟩]; exact rpr_p0 w
      ·rw [decide_eq_false (fun q => c q.2.2.2)]; exact rpr_p3 u c w
     ·rw [decide_eq_false (fun q => b q.2.2.1)]; exact rpr_p2 d u b w
    ·rw [decide_eq_false (fun q => a q.2.1)]; exact rpr_p1 m d u a w
   ·rw [decide_eq_false (fun q => q.1.elim g1 g2)]; exact rpr_x i m d u h0 g1 g2 w
structure R5 where
 (i m d u e : Int)
abbrev v5 (x : R5) : Value := .tuple #[.agg #[vi ki x.i, vi ki x.m, vi ki x.d, vi ki x.u], vi ki x.e]
abbrev a4 (i m d u : Int) : Value := .agg #[vi ki i, vi ki m, vi ki d, vi ki u]
theorem rpright_is (i m d u : Int) (u1 : -9223372036854775808 ≤ u) (u2 : u ≤ 9223372036854775807) (c : Bool) (h : pR i m d u = c) : Hid (∀ w : World, Calls Tryz.prog 43 #[a4 i m d u] w fun r' w' => r' = zr (.bool c) ∧ Below w.heap.size w w') := fun w => by rw [← h]; exact rpr_any i m d u u1 u2 w
end Go.Proofs.YtpdmndlpgjjopaaGreatDoor.Sp
namespace Go.Proofs.YtpdmndlpgjjopaaGreatDoor
open Go.RowKit
theorem md_zok (j u D U d us d1 d2 V E e : Int)
  (OF : Hid (∀ w : World, Cvl.Lens w → Calls Tryz.prog 98 #[.agg #[vi ki 0, vi ki u]] w fun r' w' => r' = zr (.tuple #[.agg #[vi ki 0, vi ki d], vi ki us, vi ki 0]) ∧ Below w.heap.size w w'))
  (AD : Hid (∀ w : World, Cvl.Lens w → Calls Tryz.prog 100 #[.agg #[vi ki 0, vi ki d], vi ki D] w fun r' w' => r' = zr (.tuple #[.agg #[vi ki 0, vi ki d2], vi ki 0]) ∧ Below w.heap.size w w'))
  (SM : Hid (∀ w : World, Cvl.Lens w → Calls Tryz.prog 101 #[.agg #[vi ki 0, vi ki d2], vi ki us] w fun r' w' => r' = zr (.tuple #[.agg #[vi ki 0, vi ki V], vi ki E]) ∧ Below w.heap.size w w'))
  (w : World) (hL : Hid (∀ W : World, Below w.heap.size w W → Cvl.Lens W)) :
  Calls Tryz.prog 79 #[.agg #[vi ki 0, vi ki u], .agg #[vi ki j, vi ki 0, vi ki D, vi ki U]] w fun r' w' => r' = zr (.tuple #[.agg #[vi ki 0, vi ki V], vi ki E]) ∧ Below w.heap.size w w' := by
 have K0 := bsn3 w [vi ki 0, vi ki u] 36 [vi ki j, vi ki 0, vi ki D, vi ki U] 38 [vi ki 0, vi ki 0] 36
 go_enter Tryz.func79, Tryz.ntmps79
 go_wp2_with fail
 refine (OF.out _ (hL.out _ K0.out.1)).mono ?_
 rintro e W1 ⟨rfl, hb⟩
 have K1 := bsb K0 hb
 clear hb K0
 obtain ⟨c1_0_0, c1_0_1⟩ := (bo1 K1).c2
 obtain ⟨c1_1_0, c1_1_1, c1_1_2, c1_1_3⟩ := (bo2 K1).c4
 obtain ⟨c1_2_0, c1_2_1⟩ := (bo3 K1).c2
 have Mz1 := bsn K1 [vi ki 0, vi ki d] 95
 have lt1_0 := (bo1 K1).1
 have lt1_1 := (bo2 K1).1
 have lt1_2 := (bo3 K1).1
 go_upto_region 2 with fail
 refine bs_to Mz1 ?_
 clear c1_0_0 c1_0_1 c1_1_0 c1_1_1 c1_1_2 c1_1_3 c1_2_0 c1_2_1
 intro W2 K2
 clear Mz1 K1
 obtain ⟨c2_0_0, c2_0_1⟩ := (bo1 K2).c2
 obtain ⟨c2_1_0, c2_1_1⟩ := (bo2 K2).c2
 obtain ⟨c2_2_0, c2_2_1, c2_2_2, c2_2_3⟩ := (bo3 K2).c4
 obtain ⟨c2_3_0, c2_3_1⟩ := (bo4 K2).c2
 go_wp2_with fail
 refine (AD.out _ (hL.out _ K2.out.1)).mono ?_
 rintro e W3 ⟨rfl, hb⟩
 have K3 := bsb K2 hb
 clear c2_0_0 c2_0_1 c2_1_0 c2_1_1 c2_2_0 c2_2_1 c2_2_2 c2_2_3 c2_3_0 c2_3_1
 clear hb K2
 obtain ⟨c3_0_0, c3_0_1⟩ := (bo1 K3).c2
 obtain ⟨c3_1_0, c3_1_1⟩ := (bo2 K3).c2
 obtain ⟨c3_2_0, c3_2_1, c3_2_2, c3_2_3⟩ := (bo3 K3).c4
 obtain ⟨c3_3_0, c3_3_1⟩ := (bo4 K3).c2
 clear c3_0_0 c3_0_1 c3_1_0 c3_1_1 c3_2_0 c3_2_1 c3_2_2 c3_2_3 c3_3_0 c3_3_1
 have r3_0 : W3.cell? ⟨W1.heap.size, 0, none⟩ = some (vi ki 0) := (K3.out.at (W1.heap.size) [vi ki 0, vi ki d] (by simp)).c 0 rfl
 have sr3_0 : W3.frozen? ⟨W1.heap.size, 0, none⟩ = false := (K3.out.at (W1.heap.size) [vi ki 0, vi ki d] (by simp)).f 0 rfl
 have r3_1 : W3.cell? ⟨W1.heap.size, 1, none⟩ = some (vi ki d) := (K3.out.at (W1.heap.size) [vi ki 0, vi ki d] (by simp)).c 1 rfl
 have sr3_1 : W3.frozen? ⟨W1.heap.size, 1, none⟩ = false := (K3.out.at (W1.heap.size) [vi ki 0, vi ki d] (by simp)).f 1 rfl
 have Mz3 : Hid (BS w [(W1.heap.size, [vi ki 0, vi ki d2]), (w.heap.size + 2, [vi ki 0, vi ki 0]), (w.heap.size + 1, [vi ki j, vi ki 0, vi ki D, vi ki U]), (w.heap.size, [vi ki 0, vi ki u])] (W3.setCells (W1.heap.size) 0 [vi ki 0, vi ki d2])) := ((K3.out.perm (l' := [(W1.heap.size, [vi ki 0, vi ki d]), (w.heap.size + 2, [vi ki 0, vi ki 0]), (w.heap.size + 1, [vi ki j, vi ki 0, vi ki D, vi ki U]), (w.heap.size, [vi ki 0, vi ki u])]) (by intro x hx; simp only [List.mem_cons, List.not_mem_nil, or_false] at hx ⊢; rcases hx with h | h | h | h <;> simp [h])).set [vi ki 0, vi ki d2] rfl (by intro x hx; simp only [List.mem_cons, List.not_mem_nil, or_false] at hx; rcases hx with rfl | rfl | rfl <;> simp only [] <;> omega))
 simp only [World.setCells, Nat.zero_add] at Mz3
 go_upto_region 6 with fail
 refine gen_to (BS w [(W1.heap.size, [vi ki 0, vi ki d2]), (w.heap.size + 2, [vi ki 0, vi ki 0]), (w.heap.size + 1, [vi ki j, vi ki 0, vi ki D, vi ki U]), (w.heap.size, [vi ki 0, vi ki u])]) Mz3.out ?_
 clear r3_0 sr3_0 r3_1 sr3_1
 intro W4 K4'
 have K4 : Hid (BS w [(W1.heap.size, [vi ki 0, vi ki d2]), (w.heap.size + 2, [vi ki 0, vi ki 0]), (w.heap.size + 1, [vi ki j, vi ki 0, vi ki D, vi ki U]), (w.heap.size, [vi ki 0, vi ki u])] W4) := K4'
 clear K4' Mz3 K3
 obtain ⟨c4_0_0, c4_0_1⟩ := (bo1 K4).c2
 obtain ⟨c4_1_0, c4_1_1⟩ := (bo2 K4).c2
 obtain ⟨c4_2_0, c4_2_1, c4_2_2, c4_2_3⟩ := (bo3 K4).c4
 obtain ⟨c4_3_0, c4_3_1⟩ := (bo4 K4).c2
 go_wp2_with fail
 refine (SM.out _ (hL.out _ K4.out.1)).mono ?_
 rintro e W5 ⟨rfl, hb⟩
 have K5 := bsb K4 hb
 clear c4_0_0 c4_0_1 c4_1_0 c4_1_1 c4_2_0 c4_2_1 c4_2_2 c4_2_3 c4_3_0 c4_3_1
 clear hb K4
 obtain ⟨c5_0_0, c5_0_1⟩ := (bo1 K5).c2
 obtain ⟨c5_1_0, c5_1_1⟩ := (bo2 K5).c2
 obtain ⟨z5_1_0, z5_1_1⟩ := (bo2 K5).f2
 obtain ⟨c5_2_0, c5_2_1, c5_2_2, c5_2_3⟩ := (bo3 K5).c4
 obtain ⟨c5_3_0, c5_3_1⟩ := (bo4 K5).c2
 have XF : Hid (Bx (W5.setCells (w.heap.size + 2) 0 [vi ki 0, vi ki V]) (w.heap.size + 2) [vi ki 0, vi ki V]) := (K5.out.at (w.heap.size + 2) [vi ki 0, vi ki 0] (by simp)).setAll _ rfl
 have BF : Hid (Below w.heap.size w (W5.setCells (w.heap.size + 2) 0 [vi ki 0, vi ki V])) := below_setCells (by omega) _ _ _ K5.out.1
 have y0 := XF.out.c 0 rfl
 have y1 := XF.out.c 1 rfl
 simp only [World.setCells, Nat.zero_add] at y0 y1
 clear XF
 go_wp2
 exact bodyPost_ret (v := .tuple #[.agg #[vi ki 0, vi ki V], vi ki E]) (by simp [results, Tryz.results79, go_sem, y0, y1]) rfl ⟨rfl, BF.out⟩
theorem md_zad (j u D U d us d1 d2 V E e : Int) (he : e ≠ 0)
  (OF : Hid (∀ w : World, Cvl.Lens w → Calls Tryz.prog 98 #[.agg #[vi ki 0, vi ki u]] w fun r' w' => r' = zr (.tuple #[.agg #[vi ki 0, vi ki d], vi ki us, vi ki 0]) ∧ Below w.heap.size w w'))
  (AD : Hid (∀ w : World, Cvl.Lens w → Calls Tryz.prog 100 #[.agg #[vi ki 0, vi ki d], vi ki D] w fun r' w' => r' = zr (.tuple #[.agg #[vi ki 0, vi ki d2], vi ki e]) ∧ Below w.heap.size w w'))
  (w : World) (hL : Hid (∀ W : World, Below w.heap.size w W → Cvl.Lens W)) :
  Calls Tryz.prog 79 #[.agg #[vi ki 0, vi ki u], .agg #[vi ki j, vi ki 0, vi ki D, vi ki U]] w fun r' w' => r' = zr (.tuple #[.agg #[vi ki 0, vi ki 0], vi ki e]) ∧ Below w.heap.size w w' := by
 have e1 : (e != 0) = true := bne_iff_ne.2 he
 have e2 : (e == 0) = false := by simpa using he
 have K0 := bsn3 w [vi ki 0, vi ki u] 36 [vi ki j, vi ki 0, vi ki D, vi ki U] 38 [vi ki 0, vi ki 0] 36
 go_enter Tryz.func79, Tryz.ntmps79
 go_wp2_with fail
 refine (OF.out _ (hL.out _ K0.out.1)).mono ?_
 rintro e W1 ⟨rfl, hb⟩
 have K1 := bsb K0 hb
 clear hb K0
 obtain ⟨c1_0_0, c1_0_1⟩ := (bo1 K1).c2
 obtain ⟨c1_1_0, c1_1_1, c1_1_2, c1_1_3⟩ := (bo2 K1).c4
 obtain ⟨c1_2_0, c1_2_1⟩ := (bo3 K1).c2
 have Mz1 := bsn K1 [vi ki 0, vi ki d] 95
 have lt1_0 := (bo1 K1).1
 have lt1_1 := (bo2 K1).1
 have lt1_2 := (bo3 K1).1
 go_upto_region 2 with fail
 refine bs_to Mz1 ?_
 clear c1_0_0 c1_0_1 c1_1_0 c1_1_1 c1_1_2 c1_1_3 c1_2_0 c1_2_1
 intro W2 K2
 clear Mz1 K1
 obtain ⟨c2_0_0, c2_0_1⟩ := (bo1 K2).c2
 obtain ⟨c2_1_0, c2_1_1⟩ := (bo2 K2).c2
 obtain ⟨c2_2_0, c2_2_1, c2_2_2, c2_2_3⟩ := (bo3 K2).c4
 obtain ⟨c2_3_0, c2_3_1⟩ := (bo4 K2).c2
 go_wp2_with fail
 refine (AD.out _ (hL.out _ K2.out.1)).mono ?_
 rintro e W3 ⟨rfl, hb⟩
 have K3 := bsb K2 hb
 clear c2_0_0 c2_0_1 c2_1_0 c2_1_1 c2_2_0 c2_2_1 c2_2_2 c2_2_3 c2_3_0 c2_3_1
 clear hb K2
 obtain ⟨c3_0_0, c3_0_1⟩ := (bo1 K3).c2
 obtain ⟨c3_1_0, c3_1_1⟩ := (bo2 K3).c2
 obtain ⟨c3_2_0, c3_2_1, c3_2_2, c3_2_3⟩ := (bo3 K3).c4
 obtain ⟨c3_3_0, c3_3_1⟩ := (bo4 K3).c2
 clear c3_0_0 c3_0_1 c3_1_0 c3_1_1 c3_2_0 c3_2_1 c3_2_2 c3_2_3 c3_3_0 c3_3_1
 have r3_0 : W3.cell? ⟨W1.heap.size, 0, none⟩ = some (vi ki 0) := (K3.out.at (W1.heap.size) [vi ki 0, vi ki d] (by simp)).c 0 rfl
 have sr3_0 : W3.frozen? ⟨W1.heap.size, 0, none⟩ = false := (K3.out.at (W1.heap.size) [vi ki 0, vi ki d] (by simp)).f 0 rfl
 have r3_1 : W3.cell? ⟨W1.heap.size, 1, none⟩ = some (vi ki d) := (K3.out.at (W1.heap.size) [vi ki 0, vi ki d] (by simp)).c 1 rfl
 have sr3_1 : W3.frozen? ⟨W1.heap.size, 1, none⟩ = false := (K3.out.at (W1.heap.size) [vi ki 0, vi ki d] (by simp)).f 1 rfl
 have Mz3 : Hid (BS w [(W1.heap.size, [vi ki 0, vi ki d2]), (w.heap.size + 2, [vi ki 0, vi ki 0]), (w.heap.size + 1, [vi ki j, vi ki 0, vi ki D, vi ki U]), (w.heap.size, [vi ki 0, vi ki u])] (W3.setCells (W1.heap.size) 0 [vi ki 0, vi ki d2])) := ((K3.out.perm (l' := [(W1.heap.size, [vi ki 0, vi ki d]), (w.heap.size + 2, [vi ki 0, vi ki 0]), (w.heap.size + 1, [vi ki j, vi ki 0, vi ki D, vi ki U]), (w.heap.size, [vi ki 0, vi ki u])]) (by intro x hx; simp only [List.mem_cons, List.not_mem_nil, or_false] at hx ⊢; rcases hx with h | h | h | h <;> simp [h])).set [vi ki 0, vi ki d2] rfl (by intro x hx; simp only [List.mem_cons, List.not_mem_nil, or_false] at hx; rcases hx with rfl | rfl | rfl <;> simp only [] <;> omega))
 simp only [World.setCells, Nat.zero_add] at Mz3
 go_upto_region 6 with fail
 refine gen_to (BS w [(W1.heap.size, [vi ki 0, vi ki d2]), (w.heap.size + 2, [vi ki 0, vi ki 0]), (w.heap.size + 1, [vi ki j, vi ki 0, vi ki D, vi ki U]), (w.heap.size, [vi ki 0, vi ki u])]) Mz3.out ?_
 clear r3_0 sr3_0 r3_1 sr3_1
 intro W4 K4'
 have K4 : Hid (BS w [(W1.heap.size, [vi ki 0, vi ki d2]), (w.heap.size + 2, [vi ki 0, vi ki 0]), (w.heap.size + 1, [vi ki j, vi ki 0, vi ki D, vi ki U]), (w.heap.size, [vi ki 0, vi ki u])] W4) := K4'
 clear K4' Mz3 K3
 obtain ⟨c4_0_0, c4_0_1⟩ := (bo1 K4).c2
 obtain ⟨c4_1_0, c4_1_1⟩ := (bo2 K4).c2
 obtain ⟨z4_1_0, z4_1_1⟩ := (bo2 K4).f2
 obtain ⟨c4_2_0, c4_2_1, c4_2_2, c4_2_3⟩ := (bo3 K4).c4
 obtain ⟨c4_3_0, c4_3_1⟩ := (bo4 K4).c2
 have XF : Hid (Bx (W4.setCells (w.heap.size + 2) 0 [vi ki 0, vi ki 0]) (w.heap.size + 2) [vi ki 0, vi ki 0]) := (K4.out.at (w.heap.size + 2) [vi ki 0, vi ki 0] (by simp)).setAll _ rfl
 have BF : Hid (Below w.heap.size w (W4.setCells (w.heap.size + 2) 0 [vi ki 0, vi ki 0])) := below_setCells (by omega) _ _ _ K4.out.1
 have y0 := XF.out.c 0 rfl
 have y1 := XF.out.c 1 rfl
 simp only [World.setCells, Nat.zero_add] at y0 y1
 clear XF
 go_wp2
 exact bodyPost_ret (v := .tuple #[.agg #[vi ki 0, vi ki 0], vi ki e]) (by simp [results, Tryz.results79, go_sem, y0, y1]) rfl ⟨rfl, BF.out⟩
theorem md_ok (j u M D U d us d1 d2 V E e : Int) (hM : M ≠ 0)
  (OF : Hid (∀ w : World, Cvl.Lens w → Calls Tryz.prog 98 #[.agg #[vi ki 0, vi ki u]] w fun r' w' => r' = zr (.tuple #[.agg #[vi ki 0, vi ki d], vi ki us, vi ki 0]) ∧ Below w.heap.size w w'))
  (SH : Hid (∀ w : World, Cvl.Lens w → Calls Tryz.prog 99 #[.agg #[vi ki 0, vi ki d], vi ki M] w fun r' w' => r' = zr (.tuple #[.agg #[vi ki 0, vi ki d1], vi ki 0]) ∧ Below w.heap.size w w'))
  (AD : Hid (∀ w : World, Cvl.Lens w → Calls Tryz.prog 100 #[.agg #[vi ki 0, vi ki d1], vi ki D] w fun r' w' => r' = zr (.tuple #[.agg #[vi ki 0, vi ki d2], vi ki 0]) ∧ Below w.heap.size w w'))
  (SM : Hid (∀ w : World, Cvl.Lens w → Calls Tryz.prog 101 #[.agg #[vi ki 0, vi ki d2], vi ki us] w fun r' w' => r' = zr (.tuple #[.agg #[vi ki 0, vi ki V], vi ki E]) ∧ Below w.heap.size w w'))
  (w : World) (hL : Hid (∀ W : World, Below w.heap.size w W → Cvl.Lens W)) :
  Calls Tryz.prog 79 #[.agg #[vi ki 0, vi ki u], .agg #[vi ki j, vi ki M, vi ki D, vi ki U]] w fun r' w' => r' = zr (.tuple #[.agg #[vi ki 0, vi ki V], vi ki E]) ∧ Below w.heap.size w w' := by
 have m1 : (M != 0) = true := bne_iff_ne.2 hM
 have K0 := bsn3 w [vi ki 0, vi ki u] 36 [vi ki j, vi ki M, vi ki D, vi ki U] 38 [vi ki 0, vi ki 0] 36
 go_enter Tryz.func79, Tryz.ntmps79
 go_wp2_with fail
 refine (OF.out _ (hL.out _ K0.out.1)).mono ?_
 rintro e W1 ⟨rfl, hb⟩
 have K1 := bsb K0 hb
 clear hb K0
 obtain ⟨c1_0_0, c1_0_1⟩ := (bo1 K1).c2
 obtain ⟨c1_1_0, c1_1_1, c1_1_2, c1_1_3⟩ := (bo2 K1).c4
 obtain ⟨c1_2_0, c1_2_1⟩ := (bo3 K1).c2
 have Mz1 := bsn K1 [vi ki 0, vi ki d] 95
 have lt1_0 := (bo1 K1).1
 have lt1_1 := (bo2 K1).1
 have lt1_2 := (bo3 K1).1
 go_upto_region 2 with fail
 refine bs_to Mz1 ?_
 clear c1_0_0 c1_0_1 c1_1_0 c1_1_1 c1_1_2 c1_1_3 c1_2_0 c1_2_1
 intro W2 K2
 clear Mz1 K1
 obtain ⟨c2_0_0, c2_0_1⟩ := (bo1 K2).c2
 obtain ⟨c2_1_0, c2_1_1⟩ := (bo2 K2).c2
 obtain ⟨c2_2_0, c2_2_1, c2_2_2, c2_2_3⟩ := (bo3 K2).c4
 obtain ⟨c2_3_0, c2_3_1⟩ := (bo4 K2).c2
 go_wp2_with fail
 refine (SH.out _ (hL.out _ K2.out.1)).mono ?_
 rintro e W3 ⟨rfl, hb⟩
 have K3 := bsb K2 hb
 clear c2_0_0 c2_0_1 c2_1_0 c2_1_1 c2_2_0 c2_2_1 c2_2_2 c2_2_3 c2_3_0 c2_3_1
 clear hb K2
 obtain ⟨c3_0_0, c3_0_1⟩ := (bo1 K3).c2
 obtain ⟨c3_1_0, c3_1_1⟩ := (bo2 K3).c2
 obtain ⟨c3_2_0, c3_2_1, c3_2_2, c3_2_3⟩ := (bo3 K3).c4
 obtain ⟨c3_3_0, c3_3_1⟩ := (bo4 K3).c2
 clear c3_0_0 c3_0_1 c3_1_0 c3_1_1 c3_2_0 c3_2_1 c3_2_2 c3_2_3 c3_3_0 c3_3_1
 have r3_0 : W3.cell? ⟨W1.heap.size, 0, none⟩ = some (vi ki 0) := (K3.out.at (W1.heap.size) [vi ki 0, vi ki d] (by simp)).c 0 rfl
 have sr3_0 : W3.frozen? ⟨W1.heap.size, 0, none⟩ = false := (K3.out.at (W1.heap.size) [vi ki 0, vi ki d] (by simp)).f 0 rfl
 have r3_1 : W3.cell? ⟨W1.heap.size, 1, none⟩ = some (vi ki d) := (K3.out.at (W1.heap.size) [vi ki 0, vi ki d] (by simp)).c 1 rfl
 have sr3_1 : W3.frozen? ⟨W1.heap.size, 1, none⟩ = false := (K3.out.at (W1.heap.size) [vi ki 0, vi ki d] (by simp)).f 1 rfl
 have Mz3 : Hid (BS w [(W1.heap.size, [vi ki 0, vi ki d1]), (w.heap.size + 2, [vi ki 0, vi ki 0]), (w.heap.size + 1, [vi ki j, vi ki M, vi ki D, vi ki U]), (w.heap.size, [vi ki 0, vi ki u])] (W3.setCells (W1.heap.size) 0 [vi ki 0, vi ki d1])) := ((K3.out.perm (l' := [(W1.heap.size, [vi ki 0, vi ki d]), (w.heap.size + 2, [vi ki 0, vi ki 0]), (w.heap.size + 1, [vi ki j, vi ki M, vi ki D, vi ki U]), (w.heap.size, [vi ki 0, vi ki u])]) (by intro x hx; simp only [List.mem_cons, List.not_mem_nil, or_false] at hx ⊢; rcases hx with h | h | h | h <;> simp [h])).set [vi ki 0, vi ki d1] rfl (by intro x hx; simp only [List.mem_cons, List.not_mem_nil, or_false] at hx; rcases hx with rfl | rfl | rfl <;> simp only [] <;> omega))
 simp only [World.setCells, Nat.zero_add] at Mz3
 go_upto_region 4 with fail
 refine gen_to (BS w [(W1.heap.size, [vi ki 0, vi ki d1]), (w.heap.size + 2, [vi ki 0, vi ki 0]), (w.heap.size + 1, [vi ki j, vi ki M, vi ki D, vi ki U]), (w.heap.size, [vi ki 0, vi ki u])]) Mz3.out ?_
 clear r3_0 sr3_0 r3_1 sr3_1
 intro W4 K4'
 have K4 : Hid (BS w [(W1.heap.size, [vi ki 0, vi ki d1]), (w.heap.size + 2, [vi ki 0, vi ki 0]), (w.heap.size + 1, [vi ki j, vi ki M, vi ki D, vi ki U]), (w.heap.size, [vi ki 0, vi ki u])] W4) := K4'
 clear K4' Mz3 K3
 obtain ⟨c4_0_0, c4_0_1⟩ := (bo1 K4).c2
 obtain ⟨c4_1_0, c4_1_1⟩ := (bo2 K4).c2
 obtain ⟨c4_2_0, c4_2_1, c4_2_2, c4_2_3⟩ := (bo3 K4).c4
 obtain ⟨c4_3_0, c4_3_1⟩ := (bo4 K4).c2
 go_wp2_with fail
 refine (AD.out _ (hL.out _ K4.out.1)).mono ?_
 rintro e W5 ⟨rfl, hb⟩
 have K5 := bsb K4 hb
 clear c4_0_0 c4_0_1 c4_1_0 c4_1_1 c4_2_0 c4_2_1 c4_2_2 c4_2_3 c4_3_0 c4_3_1
 clear hb K4
 obtain ⟨c5_0_0, c5_0_1⟩ := (bo1 K5).c2
 obtain ⟨c5_1_0, c5_1_1⟩ := (bo2 K5).c2
 obtain ⟨c5_2_0, c5_2_1, c5_2_2, c5_2_3⟩ := (bo3 K5).c4
 obtain ⟨c5_3_0, c5_3_1⟩ := (bo4 K5).c2
 clear c5_0_0 c5_0_1 c5_1_0 c5_1_1 c5_2_0 c5_2_1 c5_2_2 c5_2_3 c5_3_0 c5_3_1
 have r5_0 : W5.cell? ⟨W1.heap.size, 0, none⟩ = some (vi ki 0) := (K5.out.at (W1.heap.size) [vi ki 0, vi ki d1] (by simp)).c 0 rfl
 have sr5_0 : W5.frozen? ⟨W1.heap.size, 0, none⟩ = false := (K5.out.at (W1.heap.size) [vi ki 0, vi ki d1] (by simp)).f 0 rfl
 have r5_1 : W5.cell? ⟨W1.heap.size, 1, none⟩ = some (vi ki d1) := (K5.out.at (W1.heap.size) [vi ki 0, vi ki d1] (by simp)).c 1 rfl
 have sr5_1 : W5.frozen? ⟨W1.heap.size, 1, none⟩ = false := (K5.out.at (W1.heap.size) [vi ki 0, vi ki d1] (by simp)).f 1 rfl
 have Mz5 : Hid (BS w [(W1.heap.size, [vi ki 0, vi ki d2]), (w.heap.size + 2, [vi ki 0, vi ki 0]), (w.heap.size + 1, [vi ki j, vi ki M, vi ki D, vi ki U]), (w.heap.size, [vi ki 0, vi ki u])] (W5.setCells (W1.heap.size) 0 [vi ki 0, vi ki d2])) := ((K5.out.perm (l' := [(W1.heap.size, [vi ki 0, vi ki d1]), (w.heap.size + 2, [vi ki 0, vi ki 0]), (w.heap.size + 1, [vi ki j, vi ki M, vi ki D, vi ki U]), (w.heap.size, [vi ki 0, vi ki u])]) (by intro x hx; simp only [List.mem_cons, List.not_mem_nil, or_false] at hx ⊢; rcases hx with h | h | h | h <;> simp [h])).set [vi ki 0, vi ki d2] rfl (by intro x hx; simp only [List.mem_cons, List.not_mem_nil, or_false] at hx; rcases hx with rfl | rfl | rfl <;> simp only [] <;> omega))
 simp only [World.setCells, Nat.zero_add] at Mz5
 go_upto_region 6 with fail
 refine gen_to (BS w [(W1.heap.size, [vi ki 0, vi ki d2]), (w.heap.size + 2, [vi ki 0, vi ki 0]), (w.heap.size + 1, [vi ki j, vi ki M, vi ki D, vi ki U]), (w.heap.size, [vi ki 0, vi ki u])]) Mz5.out ?_
 clear r5_0 sr5_0 r5_1 sr5_1
 intro W6 K6'
 have K6 : Hid (BS w [(W1.heap.size, [vi ki 0, vi ki d2]), (w.heap.size + 2, [vi ki 0, vi ki 0]), (w.heap.size + 1, [vi ki j, vi ki M, vi ki D, vi ki U]), (w.heap.size, [vi ki 0, vi ki u])] W6) := K6'
 clear K6' Mz5 K5
 obtain ⟨c6_0_0, c6_0_1⟩ := (bo1 K6).c2
 obtain ⟨c6_1_0, c6_1_1⟩ := (bo2 K6).c2
 obtain ⟨c6_2_0, c6_2_1, c6_2_2, c6_2_3⟩ := (bo3 K6).c4
 obtain ⟨c6_3_0, c6_3_1⟩ := (bo4 K6).c2
 go_wp2_with fail
 refine (SM.out _ (hL.out _ K6.out.1)).mono ?_
 rintro e W7 ⟨rfl, hb⟩
 have K7 := bsb K6 hb
 clear c6_0_0 c6_0_1 c6_1_0 c6_1_1 c6_2_0 c6_2_1 c6_2_2 c6_2_3 c6_3_0 c6_3_1
 clear hb K6
 obtain ⟨c7_0_0, c7_0_1⟩ := (bo1 K7).c2
 obtain ⟨c7_1_0, c7_1_1⟩ := (bo2 K7).c2
 obtain ⟨z7_1_0, z7_1_1⟩ := (bo2 K7).f2
 obtain ⟨c7_2_0, c7_2_1, c7_2_2, c7_2_3⟩ := (bo3 K7).c4
 obtain ⟨c7_3_0, c7_3_1⟩ := (bo4 K7).c2
 have XF : Hid (Bx (W7.setCells (w.heap.size + 2) 0 [vi ki 0, vi ki V]) (w.heap.size + 2) [vi ki 0, vi ki V]) := (K7.out.at (w.heap.size + 2) [vi ki 0, vi ki 0] (by simp)).setAll _ rfl
 have BF : Hid (Below w.heap.size w (W7.setCells (w.heap.size + 2) 0 [vi ki 0, vi ki V])) := below_setCells (by omega) _ _ _ K7.out.1
 have y0 := XF.out.c 0 rfl
 have y1 := XF.out.c 1 rfl
 simp only [World.setCells, Nat.zero_add] at y0 y1
 clear XF
 go_wp2
 exact bodyPost_ret (v := .tuple #[.agg #[vi ki 0, vi ki V], vi ki E]) (by simp [results, Tryz.results79, go_sem, y0, y1]) rfl ⟨rfl, BF.out⟩
theorem md_sh (j u M D U d us d1 d2 V E e : Int) (hM : M ≠ 0) (he : e ≠ 0)
  (OF : Hid (∀ w : World, Cvl.Lens w → Calls Tryz.prog 98 #[.agg #[vi ki 0, vi ki u]] w fun r' w' => r' = zr (.tuple #[.agg #[vi ki 0, vi ki d], vi ki us, vi ki 0]) ∧ Below w.heap.size w w'))
  (SH : Hid (∀ w : World, Cvl.Lens w → Calls Tryz.prog 99 #[.agg #[vi ki 0, vi ki d], vi ki M] w fun r' w' => r' = zr (.tuple #[.agg #[vi ki 0, vi ki d1], vi ki e]) ∧ Below w.heap.size w w'))
  (w : World) (hL : Hid (∀ W : World, Below w.heap.size w W → Cvl.Lens W)) :
  Calls Tryz.prog 79 #[.agg #[vi ki 0, vi ki u], .agg #[vi ki j, vi ki M, vi ki D, vi ki U]] w fun r' w' => r' = zr (.tuple #[.agg #[vi ki 0, vi ki 0], vi ki e]) ∧ Below w.heap.size w w' := by
 have m1 : (M != 0) = true := bne_iff_ne.2 hM
 have e1 : (e != 0) = true := bne_iff_ne.2 he
 have e2 : (e == 0) = false := by simpa using he
 have K0 := bsn3 w [vi ki 0, vi ki u] 36 [vi ki j, vi ki M, vi ki D, vi ki U] 38 [vi ki 0, vi ki 0] 36
 go_enter Tryz.func79, Tryz.ntmps79
 go_wp2_with fail
 refine (OF.out _ (hL.out _ K0.out.1)).mono ?_
 rintro e W1 ⟨rfl, hb⟩
 have K1 := bsb K0 hb
 clear hb K0
 obtain ⟨c1_0_0, c1_0_1⟩ := (bo1 K1).c2
 obtain ⟨c1_1_0, c1_1_1, c1_1_2, c1_1_3⟩ := (bo2 K1).c4
 obtain ⟨c1_2_0, c1_2_1⟩ := (bo3 K1).c2
 have Mz1 := bsn K1 [vi ki 0, vi ki d] 95
 have lt1_0 := (bo1 K1).1
 have lt1_1 := (bo2 K1).1
 have lt1_2 := (bo3 K1).1
 go_upto_region 2 with fail
 refine bs_to Mz1 ?_
 clear c1_0_0 c1_0_1 c1_1_0 c1_1_1 c1_1_2 c1_1_3 c1_2_0 c1_2_1
 intro W2 K2
 clear Mz1 K1
 obtain ⟨c2_0_0, c2_0_1⟩ := (bo1 K2).c2
 obtain ⟨c2_1_0, c2_1_1⟩ := (bo2 K2).c2
 obtain ⟨c2_2_0, c2_2_1, c2_2_2, c2_2_3⟩ := (bo3 K2).c4
 obtain ⟨c2_3_0, c2_3_1⟩ := (bo4 K2).c2
 go_wp2_with fail
 refine (SH.out _ (hL.out _ K2.out.1)).mono ?_
 rintro e W3 ⟨rfl, hb⟩
 have K3 := bsb K2 hb
 clear c2_0_0 c2_0_1 c2_1_0 c2_1_1 c2_2_0 c2_2_1 c2_2_2 c2_2_3 c2_3_0 c2_3_1
 clear hb K2
 obtain ⟨c3_0_0, c3_0_1⟩ := (bo1 K3).c2
 obtain ⟨c3_1_0, c3_1_1⟩ := (bo2 K3).c2
 obtain ⟨c3_2_0, c3_2_1, c3_2_2, c3_2_3⟩ := (bo3 K3).c4
 obtain ⟨c3_3_0, c3_3_1⟩ := (bo4 K3).c2
 clear c3_0_0 c3_0_1 c3_1_0 c3_1_1 c3_2_0 c3_2_1 c3_2_2 c3_2_3 c3_3_0 c3_3_1
 have r3_0 : W3.cell? ⟨W1.heap.size, 0, none⟩ = some (vi ki 0) := (K3.out.at (W1.heap.size) [vi ki 0, vi ki d] (by simp)).c 0 rfl
 have sr3_0 : W3.frozen? ⟨W1.heap.size, 0, none⟩ = false := (K3.out.at (W1.heap.size) [vi ki 0, vi ki d] (by simp)).f 0 rfl
 have r3_1 : W3.cell? ⟨W1.heap.size, 1, none⟩ = some (vi ki d) := (K3.out.at (W1.heap.size) [vi ki 0, vi ki d] (by simp)).c 1 rfl
 have sr3_1 : W3.frozen? ⟨W1.heap.size, 1, none⟩ = false := (K3.out.at (W1.heap.size) [vi ki 0, vi ki d] (by simp)).f 1 rfl
 have Mz3 : Hid (BS w [(W1.heap.size, [vi ki 0, vi ki d1]), (w.heap.size + 2, [vi ki 0, vi ki 0]), (w.heap.size + 1, [vi ki j, vi ki M, vi ki D, vi ki U]), (w.heap.size, [vi ki 0, vi ki u])] (W3.setCells (W1.heap.size) 0 [vi ki 0, vi ki d1])) := ((K3.out.perm (l' := [(W1.heap.size, [vi ki 0, vi ki d]), (w.heap.size + 2, [vi ki 0, vi ki 0]), (w.heap.size + 1, [vi ki j, vi ki M, vi ki D, vi ki U]), (w.heap.size, [vi ki 0, vi ki u])]) (by intro x hx; simp only [List.mem_cons, List.not_mem_nil, or_false] at hx ⊢; rcases hx with h | h | h | h <;> simp [h])).set [vi ki 0, vi ki d1] rfl (by intro x hx; simp only [List.mem_cons, List.not_mem_nil, or_false] at hx; rcases hx with rfl | rfl | rfl <;> simp only [] <;> omega))
 simp only [World.setCells, Nat.zero_add] at Mz3
 go_upto_region 4 with fail
 refine gen_to (BS w [(W1.heap.size, [vi ki 0, vi ki d1]), (w.heap.size + 2, [vi ki 0, vi ki 0]), (w.heap.size + 1, [vi ki j, vi ki M, vi ki D, vi ki U]), (w.heap.size, [vi ki 0, vi ki u])]) Mz3.out ?_
 clear r3_0 sr3_0 r3_1 sr3_1
 intro W4 K4'
 have K4 : Hid (BS w [(W1.heap.size, [vi ki 0, vi ki d1]), (w.heap.size + 2, [vi ki 0, vi ki 0]), (w.heap.size + 1, [vi ki j, vi ki M, vi ki D, vi ki U]), (w.heap.size, [vi ki 0, vi ki u])] W4) := K4'
 clear K4' Mz3 K3
 obtain ⟨c4_0_0, c4_0_1⟩ := (bo1 K4).c2
 obtain ⟨c4_1_0, c4_1_1⟩ := (bo2 K4).c2
 obtain ⟨c4_2_0, c4_2_1, c4_2_2, c4_2_3⟩ := (bo3 K4).c4
 obtain ⟨c4_3_0, c4_3_1⟩ := (bo4 K4).c2
 clear c4_0_0 c4_0_1 c4_1_0 c4_1_1 c4_2_0 c4_2_1 c4_2_2 c4_2_3 c4_3_0 c4_3_1
 obtain ⟨c4_0_0, c4_0_1⟩ := (bo1 K4).c2
 obtain ⟨c4_1_0, c4_1_1⟩ := (bo2 K4).c2
 obtain ⟨z4_1_0, z4_1_1⟩ := (bo2 K4).f2
 obtain ⟨c4_2_0, c4_2_1, c4_2_2, c4_2_3⟩ := (bo3 K4).c4
 obtain ⟨c4_3_0, c4_3_1⟩ := (bo4 K4).c2
 have XF : Hid (Bx (W4.setCells (w.heap.size + 2) 0 [vi ki 0, vi ki 0]) (w.heap.size + 2) [vi ki 0, vi ki 0]) := (K4.out.at (w.heap.size + 2) [vi ki 0, vi ki 0] (by simp)).setAll _ rfl
 have BF : Hid (Below w.heap.size w (W4.setCells (w.heap.size + 2) 0 [vi ki 0, vi ki 0])) := below_setCells (by omega) _ _ _ K4.out.1
 have y0 := XF.out.c 0 rfl
 have y1 := XF.out.c 1 rfl
 simp only [World.setCells, Nat.zero_add] at y0 y1
 clear XF
 go_wp2
 exact bodyPost_ret (v := .tuple #[.agg #[vi ki 0, vi ki 0], vi ki e]) (by simp [results, Tryz.results79, go_sem, y0, y1]) rfl ⟨rfl, BF.out⟩
theorem md_ad (j u M D U d us d1 d2 V E e : Int) (hM : M ≠ 0) (he : e ≠ 0)
  (OF : Hid (∀ w : World, Cvl.Lens w → Calls Tryz.prog 98 #[.agg #[vi ki 0, vi ki u]] w fun r' w' => r' = zr (.tuple #[.agg #[vi ki 0, vi ki d], vi ki us, vi ki 0]) ∧ Below w.heap.size w w'))
  (SH : Hid (∀ w : World, Cvl.Lens w → Calls Tryz.prog 99 #[.agg #[vi ki 0, vi ki d], vi ki M] w fun r' w' => r' = zr (.tuple #[.agg #[vi ki 0, vi ki d1], vi ki 0]) ∧ Below w.heap.size w w'))
  (AD : Hid (∀ w : World, Cvl.Lens w → Calls Tryz.prog 100 #[.agg #[vi ki 0, vi ki d1], vi ki D] w fun r' w' => r' = zr (.tuple #[.agg #[vi ki 0, vi ki d2], vi ki e]) ∧ Below w.heap.size w w'))
  (w : World) (hL : Hid (∀ W : World, Below w.heap.size w W → Cvl.Lens W)) :
  Calls Tryz.prog 79 #[.agg #[vi ki 0, vi ki u], .agg #[vi ki j, vi ki M, vi ki D, vi ki U]] w fun r' w' => r' = zr (.tuple #[.agg #[vi ki 0, vi ki 0], vi ki e]) ∧ Below w.heap.size w w' := by
 have m1 : (M != 0) = true := bne_iff_ne.2 hM
 have e1 : (e != 0) = true := bne_iff_ne.2 he
 have e2 : (e == 0) = false := by simpa using he
 have K0 := bsn3 w [vi ki 0, vi ki u] 36 [vi ki j, vi ki M, vi ki D, vi ki U] 38 [vi ki 0, vi ki 0] 36
 go_enter Tryz.func79, Tryz.ntmps79
 go_wp2_with fail
 refine (OF.out _ (hL.out _ K0.out.1)).mono ?_
 rintro e W1 ⟨rfl, hb⟩
 have K1 := bsb K0 hb
 clear hb K0
 obtain ⟨c1_0_0, c1_0_1⟩ := (bo1 K1).c2
 obtain ⟨c1_1_0, c1_1_1, c1_1_2, c1_1_3⟩ := (bo2 K1).c4
 obtain ⟨c1_2_0, c1_2_1⟩ := (bo3 K1).c2
 have Mz1 := bsn K1 [vi ki 0, vi ki d] 95
 have lt1_0 := (bo1 K1).1
 have lt1_1 := (bo2 K1).1
 have lt1_2 := (bo3 K1).1
 go_upto_region 2 with fail
 refine bs_to Mz1 ?_
 clear c1_0_0 c1_0_1 c1_1_0 c1_1_1 c1_1_2 c1_1_3 c1_2_0 c1_2_1
 intro W2 K2
 clear Mz1 K1
 obtain ⟨c2_0_0, c2_0_1⟩ := (bo1 K2).c2
 obtain ⟨c2_1_0, c2_1_1⟩ := (bo2 K2).c2
 obtain ⟨c2_2_0, c2_2_1, c2_2_2, c2_2_3⟩ := (bo3 K2).c4
 obtain ⟨c2_3_0, c2_3_1⟩ := (bo4 K2).c2
 go_wp2_with fail
 refine (SH.out _ (hL.out _ K2.out.1)).mono ?_
 rintro e W3 ⟨rfl, hb⟩
 have K3 := bsb K2 hb
 clear c2_0_0 c2_0_1 c2_1_0 c2_1_1 c2_2_0 c2_2_1 c2_2_2 c2_2_3 c2_3_0 c2_3_1
 clear hb K2
 obtain ⟨c3_0_0, c3_0_1⟩ := (bo1 K3).c2
 obtain ⟨c3_1_0, c3_1_1⟩ := (bo2 K3).c2
 obtain ⟨c3_2_0, c3_2_1, c3_2_2, c3_2_3⟩ := (bo3 K3).c4
 obtain ⟨c3_3_0, c3_3_1⟩ := (bo4 K3).c2
 clear c3_0_0 c3_0_1 c3_1_0 c3_1_1 c3_2_0 c3_2_1 c3_2_2 c3_2_3 c3_3_0 c3_3_1
 have r3_0 : W3.cell? ⟨W1.heap.size, 0, none⟩ = some (vi ki 0) := (K3.out.at (W1.heap.size) [vi ki 0, vi ki d] (by simp)).c 0 rfl
 have sr3_0 : W3.frozen? ⟨W1.heap.size, 0, none⟩ = false := (K3.out.at (W1.heap.size) [vi ki 0, vi ki d] (by simp)).f 0 rfl
 have r3_1 : W3.cell? ⟨W1.heap.size, 1, none⟩ = some (vi ki d) := (K3.out.at (W1.heap.size) [vi ki 0, vi ki d] (by simp)).c 1 rfl
 have sr3_1 : W3.frozen? ⟨W1.heap.size, 1, none⟩ = false := (K3.out.at (W1.heap.size) [vi ki 0, vi ki d] (by simp)).f 1 rfl
 have Mz3 : Hid (BS w [(W1.heap.size, [vi ki 0, vi ki d1]), (w.heap.size + 2, [vi ki 0, vi ki 0]), (w.heap.size + 1, [vi ki j, vi ki M, vi ki D, vi ki U]), (w.heap.size, [vi ki 0, vi ki u])] (W3.setCells (W1.heap.size) 0 [vi ki 0, vi ki d1])) := ((K3.out.perm (l' := [(W1.heap.size, [vi ki 0, vi ki d]), (w.heap.size + 2, [vi ki 0, vi ki 0]), (w.heap.size + 1, [vi ki j, vi ki M, vi ki D, vi ki U]), (w.heap.size, [vi ki 0, vi ki u])]) (by intro x hx; simp only [List.mem_cons, List.not_mem_nil, or_false] at hx ⊢; rcases hx with h | h | h | h <;> simp [h])).set [vi ki 0, vi ki d1] rfl (by intro x hx; simp only [List.mem_cons, List.not_mem_nil, or_false] at hx; rcases hx with rfl | rfl | rfl <;> simp only [] <;> omega))
 simp only [World.setCells, Nat.zero_add] at Mz3
 go_upto_region 4 with fail
 refine gen_to (BS w [(W1.heap.size, [vi ki 0, vi ki d1]), (w.heap.size + 2, [vi ki 0, vi ki 0]), (w.heap.size + 1, [vi ki j, vi ki M, vi ki D, vi ki U]), (w.heap.size, [vi ki 0, vi ki u])]) Mz3.out ?_
 clear r3_0 sr3_0 r3_1 sr3_1
 intro W4 K4'
 have K4 : Hid (BS w [(W1.heap.size, [vi ki 0, vi ki d1]), (w.heap.size + 2, [vi ki 0, vi ki 0]), (w.heap.size + 1, [vi ki j, vi ki M, vi ki D, vi ki U]), (w.heap.size, [vi ki 0, vi ki u])] W4) := K4'
 clear K4' Mz3 K3
 obtain ⟨c4_0_0, c4_0_1⟩ := (bo1 K4).c2
 obtain ⟨c4_1_0, c4_1_1⟩ := (bo2 K4).c2
 obtain ⟨c4_2_0, c4_2_1, c4_2_2, c4_2_3⟩ := (bo3 K4).c4
 obtain ⟨c4_3_0, c4_3_1⟩ := (bo4 K4).c2
 go_wp2_with fail
 refine (AD.out _ (hL.out _ K4.out.1)).mono ?_
 rintro e W5 ⟨rfl, hb⟩
 have K5 := bsb K4 hb
 clear c4_0_0 c4_0_1 c4_1_0 c4_1_1 c4_2_0 c4_2_1 c4_2_2 c4_2_3 c4_3_0 c4_3_1
 clear hb K4
 obtain ⟨c5_0_0, c5_0_1⟩ := (bo1 K5).c2
 obtain ⟨c5_1_0, c5_1_1⟩ := (bo2 K5).c2
 obtain ⟨c5_2_0, c5_2_1, c5_2_2, c5_2_3⟩ := (bo3 K5).c4
 obtain ⟨c5_3_0, c5_3_1⟩ := (bo4 K5).c2
 clear c5_0_0 c5_0_1 c5_1_0 c5_1_1 c5_2_0 c5_2_1 c5_2_2 c5_2_3 c5_3_0 c5_3_1
 have r5_0 : W5.cell? ⟨W1.heap.size, 0, none⟩ = some (vi ki 0) := (K5.out.at (W1.heap.size) [vi ki 0, vi ki d1] (by simp)).c 0 rfl
 have sr5_0 : W5.frozen? ⟨W1.heap.size, 0, none⟩ = false := (K5.out.at (W1.heap.size) [vi ki 0, vi ki d1] (by simp)).f 0 rfl
 have r5_1 : W5.cell? ⟨W1.heap.size, 1, none⟩ = some (vi ki d1) := (K5.out.at (W1.heap.size) [vi ki 0, vi ki d1] (by simp)).c 1 rfl
 have sr5_1 : W5.frozen? ⟨W1.heap.size, 1, none⟩ = false := (K5.out.at (W1.heap.size) [vi ki 0, vi ki d1] (by simp)).f 1 rfl
 have Mz5 : Hid (BS w [(W1.heap.size, [vi ki 0, vi ki d2]), (w.heap.size + 2, [vi ki 0, vi ki 0]), (w.heap.size + 1, [vi ki j, vi ki M, vi ki D, vi ki U]), (w.heap.size, [vi ki 0, vi ki u])] (W5.setCells (W1.heap.size) 0 [vi ki 0, vi ki d2])) := ((K5.out.perm (l' := [(W1.heap.size, [vi ki 0, vi ki d1]), (w.heap.size + 2, [vi ki 0, vi ki 0]), (w.heap.size + 1, [vi ki j, vi ki M, vi ki D, vi ki U]), (w.heap.size, [vi ki 0, vi ki u])]) (by intro x hx; simp only [List.mem_cons, List.not_mem_nil, or_false] at hx ⊢; rcases hx with h | h | h | h <;> simp [h])).set [vi ki 0, vi ki d2] rfl (by intro x hx; simp only [List.mem_cons, List.not_mem_nil, or_false] at hx; rcases hx with rfl | rfl | rfl <;> simp only [] <;> omega))
 simp only [World.setCells, Nat.zero_add] at Mz5
 go_upto_region 6 with fail
 refine gen_to (BS w [(W1.heap.size, [vi ki 0, vi ki d2]), (w.heap.size + 2, [vi ki 0, vi ki 0]), (w.heap.size + 1, [vi ki j, vi ki M, vi ki D, vi ki U]), (w.heap.size, [vi ki 0, vi ki u])]) Mz5.out ?_
 clear r5_0 sr5_0 r5_1 sr5_1
 intro W6 K6'
 have K6 : Hid (BS w [(W1.heap.size, [vi ki 0, vi ki d2]), (w.heap.size + 2, [vi ki 0, vi ki 0]), (w.heap.size + 1, [vi ki j, vi ki M, vi ki D, vi ki U]), (w.heap.size, [vi ki 0, vi ki u])] W6) := K6'
 clear K6' Mz5 K5
 obtain ⟨c6_0_0, c6_0_1⟩ := (bo1 K6).c2
 obtain ⟨c6_1_0, c6_1_1⟩ := (bo2 K6).c2
 obtain ⟨z6_1_0, z6_1_1⟩ := (bo2 K6).f2
 obtain ⟨c6_2_0, c6_2_1, c6_2_2, c6_2_3⟩ := (bo3 K6).c4
 obtain ⟨c6_3_0, c6_3_1⟩ := (bo4 K6).c2
 have XF : Hid (Bx (W6.setCells (w.heap.size + 2) 0 [vi ki 0, vi ki 0]) (w.heap.size + 2) [vi ki 0, vi ki 0]) := (K6.out.at (w.heap.size + 2) [vi ki 0, vi ki 0] (by simp)).setAll _ rfl
 have BF : Hid (Below w.heap.size w (W6.setCells (w.heap.size + 2) 0 [vi ki 0, vi ki 0])) := below_setCells (by omega) _ _ _ K6.out.1
 have y0 := XF.out.c 0 rfl
 have y1 := XF.out.c 1 rfl
 simp only [World.setCells, Nat.zero_add] at y0 y1
 clear XF
 go_wp2
 exact bodyPost_ret (v := .tuple #[.agg #[vi ki 0, vi ki 0], vi ki e]) (by simp [results, Tryz.results79, go_sem, y0, y1]) rfl ⟨rfl, BF.out⟩
theorem add_no1 (i u j m d n : Int)
  (R : Hid (∀ w : World, Cvl.Lens w → Calls Tryz.prog 17 #[.agg #[vi ki i, vi ki u]] w fun r' w' => r' = zr (.bool false) ∧ Below w.heap.size w w'))
  (w : World) (hL : Hid (∀ W : World, Below w.heap.size w W → Cvl.Lens W)) :
  Calls Tryz.prog 53 #[.agg #[vi ki i, vi ki u], .agg #[vi ki j, vi ki m, vi ki d, vi ki n]] w fun r' w' => r' = zr (.tuple #[.agg #[vi ki 0, vi ki 0], vi ki 1]) ∧ Below w.heap.size w w' := by
 have K0 := bsn3 w [vi ki i, vi ki u] 36 [vi ki j, vi ki m, vi ki d, vi ki n] 38 [vi ki 0, vi ki 0] 36
 go_enter Tryz.func53, Tryz.ntmps53
 go_wp2_with fail
 refine (R.out _ (hL.out _ K0.out.1)).mono ?_
 rintro e W1 ⟨rfl, hb⟩
 have K1 := bsb K0 hb
 clear hb K0
 obtain ⟨c1_0_0, c1_0_1⟩ := (bo1 K1).c2
 obtain ⟨z1_0_0, z1_0_1⟩ := (bo1 K1).f2
 obtain ⟨c1_1_0, c1_1_1, c1_1_2, c1_1_3⟩ := (bo2 K1).c4
 obtain ⟨c1_2_0, c1_2_1⟩ := (bo3 K1).c2
 have XF : Hid (Bx (W1.setCells (w.heap.size + 2) 0 [vi ki 0, vi ki 0]) (w.heap.size + 2) [vi ki 0, vi ki 0]) := (K1.out.at (w.heap.size + 2) [vi ki 0, vi ki 0] (by simp)).setAll _ rfl
 have BF : Hid (Below w.heap.size w (W1.setCells (w.heap.size + 2) 0 [vi ki 0, vi ki 0])) := below_setCells (by omega) _ _ _ K1.out.1
 have y0 := XF.out.c 0 rfl
 have y1 := XF.out.c 1 rfl
 simp only [World.setCells, Nat.zero_add] at y0 y1
 clear XF
 go_wp2
 exact bodyPost_ret (v := .tuple #[.agg #[vi ki 0, vi ki 0], vi ki 1]) (by simp [results, Tryz.results53, go_sem, y0, y1]) rfl ⟨rfl, BF.out⟩
theorem add_no2 (i u j m d n : Int)
  (R : Hid (∀ w : World, Cvl.Lens w → Calls Tryz.prog 17 #[.agg #[vi ki i, vi ki u]] w fun r' w' => r' = zr (.bool true) ∧ Below w.heap.size w w'))
  (PR : Hid (∀ w : World, Calls Tryz.prog 18 #[.agg #[vi ki j, vi ki m, vi ki d, vi ki n]] w fun r' w' => r' = zr (.bool false) ∧ Below w.heap.size w w'))
  (w : World) (hL : Hid (∀ W : World, Below w.heap.size w W → Cvl.Lens W)) :
  Calls Tryz.prog 53 #[.agg #[vi ki i, vi ki u], .agg #[vi ki j, vi ki m, vi ki d, vi ki n]] w fun r' w' => r' = zr (.tuple #[.agg #[vi ki 0, vi ki 0], vi ki 1]) ∧ Below w.heap.size w w' := by
 have K0 := bsn3 w [vi ki i, vi ki u] 36 [vi ki j, vi ki m, vi ki d, vi ki n] 38 [vi ki 0, vi ki 0] 36
 go_enter Tryz.func53, Tryz.ntmps53
 go_wp2_with fail
 refine (R.out _ (hL.out _ K0.out.1)).mono ?_
 rintro e W1 ⟨rfl, hb⟩
 have K1 := bsb K0 hb
 clear hb K0
 obtain ⟨c1_0_0, c1_0_1⟩ := (bo1 K1).c2
 obtain ⟨c1_1_0, c1_1_1, c1_1_2, c1_1_3⟩ := (bo2 K1).c4
 obtain ⟨c1_2_0, c1_2_1⟩ := (bo3 K1).c2
 go_wp2_with fail
 refine (PR.out _).mono ?_
 rintro e W2 ⟨rfl, hb⟩
 have K2 := bsb K1 hb
 clear c1_0_0 c1_0_1 c1_1_0 c1_1_1 c1_1_2 c1_1_3 c1_2_0 c1_2_1
 clear hb K1
 obtain ⟨c2_0_0, c2_0_1⟩ := (bo1 K2).c2
 obtain ⟨z2_0_0, z2_0_1⟩ := (bo1 K2).f2
 obtain ⟨c2_1_0, c2_1_1, c2_1_2, c2_1_3⟩ := (bo2 K2).c4
 obtain ⟨c2_2_0, c2_2_1⟩ := (bo3 K2).c2
 have XF : Hid (Bx (W2.setCells (w.heap.size + 2) 0 [vi ki 0, vi ki 0]) (w.heap.size + 2) [vi ki 0, vi ki 0]) := (K2.out.at (w.heap.size + 2) [vi ki 0, vi ki 0] (by simp)).setAll _ rfl
 have BF : Hid (Below w.heap.size w (W2.setCells (w.heap.size + 2) 0 [vi ki 0, vi ki 0])) := below_setCells (by omega) _ _ _ K2.out.1
 have y0 := XF.out.c 0 rfl
 have y1 := XF.out.c 1 rfl
 simp only [World.setCells, Nat.zero_add] at y0 y1
 clear XF
 go_wp2
 exact bodyPost_ret (v := .tuple #[.agg #[vi ki 0, vi ki 0], vi ki 1]) (by simp [results, Tryz.results53, go_sem, y0, y1]) rfl ⟨rfl, BF.out⟩
theorem add_infi (i u j m d n I E : Int) (ka kb : Value) (h : I ≠ 0)
  (R : Hid (∀ w : World, Cvl.Lens w → Calls Tryz.prog 17 #[.agg #[vi ki i, vi ki u]] w fun r' w' => r' = zr (.bool true) ∧ Below w.heap.size w w'))
  (PR : Hid (∀ w : World, Calls Tryz.prog 18 #[.agg #[vi ki j, vi ki m, vi ki d, vi ki n]] w fun r' w' => r' = zr (.bool true) ∧ Below w.heap.size w w'))
  (KA : Hid (∀ w : World, Calls Tryz.prog 28 #[vi ki i] w fun r' w' => r' = zr (ka) ∧ Below w.heap.size w w'))
  (KB : Hid (∀ w : World, Calls Tryz.prog 28 #[vi ki j] w fun r' w' => r' = zr (kb) ∧ Below w.heap.size w w'))
  (TG : Hid (∀ w : World, Calls Tryz.prog 27 #[ka, kb] w fun r' w' => r' = zr (.tuple #[vi ki I, vi ki E]) ∧ Below w.heap.size w w'))
  (w : World) (hL : Hid (∀ W : World, Below w.heap.size w W → Cvl.Lens W)) :
  Calls Tryz.prog 53 #[.agg #[vi ki i, vi ki u], .agg #[vi ki j, vi ki m, vi ki d, vi ki n]] w fun r' w' => r' = zr (.tuple #[.agg #[vi ki I, vi ki 0], vi ki E]) ∧ Below w.heap.size w w' := by
 have h1 : (I != 0) = true := bne_iff_ne.2 h
 have K0 := bsn3 w [vi ki i, vi ki u] 36 [vi ki j, vi ki m, vi ki d, vi ki n] 38 [vi ki 0, vi ki 0] 36
 go_enter Tryz.func53, Tryz.ntmps53
 go_wp2_with fail
 refine (R.out _ (hL.out _ K0.out.1)).mono ?_
 rintro e W1 ⟨rfl, hb⟩
 have K1 := bsb K0 hb
 clear hb K0
 obtain ⟨c1_0_0, c1_0_1⟩ := (bo1 K1).c2
 obtain ⟨c1_1_0, c1_1_1, c1_1_2, c1_1_3⟩ := (bo2 K1).c4
 obtain ⟨c1_2_0, c1_2_1⟩ := (bo3 K1).c2
 go_wp2_with fail
 refine (PR.out _).mono ?_
 rintro e W2 ⟨rfl, hb⟩
 have K2 := bsb K1 hb
 clear c1_0_0 c1_0_1 c1_1_0 c1_1_1 c1_1_2 c1_1_3 c1_2_0 c1_2_1
 clear hb K1
 obtain ⟨c2_0_0, c2_0_1⟩ := (bo1 K2).c2
 obtain ⟨c2_1_0, c2_1_1, c2_1_2, c2_1_3⟩ := (bo2 K2).c4
 obtain ⟨c2_2_0, c2_2_1⟩ := (bo3 K2).c2
 go_wp2_with fail
 go_cut [6, 7] (fun v0 v1 wx => v0 = vi ki I ∧ v1 = vi ki E ∧ Hid (BS w [(w.heap.size + 2, [vi ki 0, vi ki 0]), (w.heap.size + 1, [vi ki j, vi ki m, vi ki d, vi ki n]), (w.heap.size, [vi ki i, vi ki u])] wx))
 case first =>
  refine wp_region_held_drew (S := BS w [(w.heap.size + 2, [vi ki 0, vi ki 0]), (w.heap.size + 1, [vi ki j, vi ki m, vi ki d, vi ki n]), (w.heap.size, [vi ki i, vi ki u])]) (by kernel_rfl) K2.out.drew (fun hHeld => ?_)
  refine tks 0 ⟨some 20, _, _, _, _, none⟩ rfl ?_
  simp only [za, zb, zc, zd]
  refine tk (v := ?_) 1 ⟨some 21, _, _, _, _, none⟩ rfl ?_ ?_
  case refine_2 => (intro w9 hSw; obtain ⟨l0_0, l0_1⟩ := (hSw.at (w.heap.size + 2) [vi ki 0, vi ki 0] (by simp)).c2; obtain ⟨l1_0, l1_1, l1_2, l1_3⟩ := (hSw.at (w.heap.size + 1) [vi ki j, vi ki m, vi ki d, vi ki n] (by simp)).c4; obtain ⟨l2_0, l2_1⟩ := (hSw.at (w.heap.size) [vi ki i, vi ki u] (by simp)).c2; clear hSw; go_simp; try with_reducible rfl)
  simp only [za, zb, zc, zd]
  refine tks 3 ⟨some 23, _, _, _, _, none⟩ rfl ?_
  simp only [za, zb, zc, zd]
  refine tk (v := ?_) 4 ⟨some 24, _, _, _, _, none⟩ rfl ?_ ?_
  case refine_2 => (intro w9 hSw; obtain ⟨l0_0, l0_1⟩ := (hSw.at (w.heap.size + 2) [vi ki 0, vi ki 0] (by simp)).c2; obtain ⟨l1_0, l1_1, l1_2, l1_3⟩ := (hSw.at (w.heap.size + 1) [vi ki j, vi ki m, vi ki d, vi ki n] (by simp)).c4; obtain ⟨l2_0, l2_1⟩ := (hSw.at (w.heap.size) [vi ki i, vi ki u] (by simp)).c2; clear hSw; go_simp; try with_reducible rfl)
  simp only [za, zb, zc, zd]
  refine rd 2 ⟨some 22, _, _, _, _, none⟩ rfl (fun K hK => ?_)
  go_simp
  refine (KA.out _).mono ?_
  rintro e v1 ⟨rfl, hb1⟩
  refine hK.out _ _ (hHeld.below hb1) (fun hHeld => ?_)
  clear hK K hb1
  refine rd 5 ⟨some 25, _, _, _, _, none⟩ rfl (fun K hK => ?_)
  go_simp
  refine (KB.out _).mono ?_
  rintro e v2 ⟨rfl, hb2⟩
  refine hK.out _ _ (hHeld.below hb2) (fun hHeld => ?_)
  clear hK K hb2
  refine rd 6 ⟨some 26, _, _, _, _, none⟩ rfl (fun K hK => ?_)
  go_simp
  refine (TG.out _).mono ?_
  rintro e v3 ⟨rfl, hb3⟩
  refine hK.out _ _ (hHeld.below hb3) (fun hHeld => ?_)
  clear hK K hb3
  refine tks 7 ⟨some 19, _, _, _, _, none⟩ rfl ?_
  simp only [za, zb, zc, zd]
  refine tks 8 ⟨some 27, _, _, _, _, none⟩ rfl ?_
  simp only [za, zb, zc, zd]
  refine tks 9 ⟨some 28, _, _, _, _, none⟩ rfl ?_
  simp only [za, zb, zc, zd]
  refine tks 10 ⟨some 6, _, _, _, _, none⟩ rfl ?_
  simp only [za, zb, zc, zd]
  refine tks 11 ⟨some 7, _, _, _, _, none⟩ rfl ?_
  simp only [za, zb, zc, zd]
  refine wpAnyH_done (by kernel_rfl) ?_ _
  go_wp2_with fail
  go_meet
  case rel => exact ⟨rfl, rfl, hHeld⟩
 case rest =>
  clear c2_0_0 c2_0_1 c2_1_0 c2_1_1 c2_1_2 c2_1_3 c2_2_0 c2_2_1
  obtain ⟨rfl, rfl, K3⟩ := hcut
  clear K2
  skip
  obtain ⟨c3_0_0, c3_0_1⟩ := (bo1 K3).c2
  obtain ⟨c3_1_0, c3_1_1, c3_1_2, c3_1_3⟩ := (bo2 K3).c4
  obtain ⟨c3_2_0, c3_2_1⟩ := (bo3 K3).c2
  clear c3_0_0 c3_0_1 c3_1_0 c3_1_1 c3_1_2 c3_1_3 c3_2_0 c3_2_1
  obtain ⟨c3_0_0, c3_0_1⟩ := (bo1 K3).c2
  obtain ⟨z3_0_0, z3_0_1⟩ := (bo1 K3).f2
  obtain ⟨c3_1_0, c3_1_1, c3_1_2, c3_1_3⟩ := (bo2 K3).c4
  obtain ⟨c3_2_0, c3_2_1⟩ := (bo3 K3).c2
  have XF : Hid (Bx (wc.setCells (w.heap.size + 2) 0 [vi ki I, vi ki 0]) (w.heap.size + 2) [vi ki I, vi ki 0]) := (K3.out.at (w.heap.size + 2) [vi ki 0, vi ki 0] (by simp)).setAll _ rfl
  have BF : Hid (Below w.heap.size w (wc.setCells (w.heap.size + 2) 0 [vi ki I, vi ki 0])) := below_setCells (by omega) _ _ _ K3.out.1
  have y0 := XF.out.c 0 rfl
  have y1 := XF.out.c 1 rfl
  simp only [World.setCells, Nat.zero_add] at y0 y1
  clear XF
  go_wp2
  exact bodyPost_ret (v := .tuple #[.agg #[vi ki I, vi ki 0], vi ki E]) (by simp [results, Tryz.results53, go_sem, y0, y1]) rfl ⟨rfl, BF.out⟩
theorem add_infe (i u j m d n E : Int) (ka kb : Value) (h : E ≠ 0)
  (R : Hid (∀ w : World, Cvl.Lens w → Calls Tryz.prog 17 #[.agg #[vi ki i, vi ki u]] w fun r' w' => r' = zr (.bool true) ∧ Below w.heap.size w w'))
  (PR : Hid (∀ w : World, Calls Tryz.prog 18 #[.agg #[vi ki j, vi ki m, vi ki d, vi ki n]] w fun r' w' => r' = zr (.bool true) ∧ Below w.heap.size w w'))
  (KA : Hid (∀ w : World, Calls Tryz.prog 28 #[vi ki i] w fun r' w' => r' = zr (ka) ∧ Below w.heap.size w w'))
  (KB : Hid (∀ w : World, Calls Tryz.prog 28 #[vi ki j] w fun r' w' => r' = zr (kb) ∧ Below w.heap.size w w'))
  (TG : Hid (∀ w : World, Calls Tryz.prog 27 #[ka, kb] w fun r' w' => r' = zr (.tuple #[vi ki 0, vi ki E]) ∧ Below w.heap.size w w'))
  (w : World) (hL : Hid (∀ W : World, Below w.heap.size w W → Cvl.Lens W)) :
  Calls Tryz.prog 53 #[.agg #[vi ki i, vi ki u], .agg #[vi ki j, vi ki m, vi ki d, vi ki n]] w fun r' w' => r' = zr (.tuple #[.agg #[vi ki 0, vi ki 0], vi ki E]) ∧ Below w.heap.size w w' := by
 have h1 : (E != 0) = true := bne_iff_ne.2 h
 have K0 := bsn3 w [vi ki i, vi ki u] 36 [vi ki j, vi ki m, vi ki d, vi ki n] 38 [vi ki 0, vi ki 0] 36
 go_enter Tryz.func53, Tryz.ntmps53
 go_wp2_with fail
 refine (R.out _ (hL.out _ K0.out.1)).mono ?_
 rintro e W1 ⟨rfl, hb⟩
 have K1 := bsb K0 hb
 clear hb K0
 obtain ⟨c1_0_0, c1_0_1⟩ := (bo1 K1).c2
 obtain ⟨c1_1_0, c1_1_1, c1_1_2, c1_1_3⟩ := (bo2 K1).c4
 obtain ⟨c1_2_0, c1_2_1⟩ := (bo3 K1).c2
 go_wp2_with fail
 refine (PR.out _).mono ?_
 rintro e W2 ⟨rfl, hb⟩
 have K2 := bsb K1 hb
 clear c1_0_0 c1_0_1 c1_1_0 c1_1_1 c1_1_2 c1_1_3 c1_2_0 c1_2_1
 clear hb K1
 obtain ⟨c2_0_0, c2_0_1⟩ := (bo1 K2).c2
 obtain ⟨c2_1_0, c2_1_1, c2_1_2, c2_1_3⟩ := (bo2 K2).c4
 obtain ⟨c2_2_0, c2_2_1⟩ := (bo3 K2).c2
 go_wp2_with fail
 go_cut [6, 7] (fun v0 v1 wx => v0 = vi ki 0 ∧ v1 = vi ki E ∧ Hid (BS w [(w.heap.size + 2, [vi ki 0, vi ki 0]), (w.heap.size + 1, [vi ki j, vi ki m, vi ki d, vi ki n]), (w.heap.size, [vi ki i, vi ki u])] wx))
 case first =>
  refine wp_region_held_drew (S := BS w [(w.heap.size + 2, [vi ki 0, vi ki 0]), (w.heap.size + 1, [vi ki j, vi ki m, vi ki d, vi ki n]), (w.heap.size, [vi ki i, vi ki u])]) (by kernel_rfl) K2.out.drew (fun hHeld => ?_)
  refine tks 0 ⟨some 20, _, _, _, _, none⟩ rfl ?_
  simp only [za, zb, zc, zd]
  refine tk (v := ?_) 1 ⟨some 21, _, _, _, _, none⟩ rfl ?_ ?_
  case refine_2 => (intro w9 hSw; obtain ⟨l0_0, l0_1⟩ := (hSw.at (w.heap.size + 2) [vi ki 0, vi ki 0] (by simp)).c2; obtain ⟨l1_0, l1_1, l1_2, l1_3⟩ := (hSw.at (w.heap.size + 1) [vi ki j, vi ki m, vi ki d, vi ki n] (by simp)).c4; obtain ⟨l2_0, l2_1⟩ := (hSw.at (w.heap.size) [vi ki i, vi ki u] (by simp)).c2; clear hSw; go_simp; try with_reducible rfl)
  simp only [za, zb, zc, zd]
  refine tks 3 ⟨some 23, _, _, _, _, none⟩ rfl ?_
  simp only [za, zb, zc, zd]
  refine tk (v := ?_) 4 ⟨some 24, _, _, _, _, none⟩ rfl ?_ ?_
  case refine_2 => (intro w9 hSw; obtain ⟨l0_0, l0_1⟩ := (hSw.at (w.heap.size + 2) [vi ki 0, vi ki 0] (by simp)).c2; obtain ⟨l1_0, l1_1, l1_2, l1_3⟩ := (hSw.at (w.heap.size + 1) [vi ki j, vi ki m, vi ki d, vi ki n] (by simp)).c4; obtain ⟨l2_0, l2_1⟩ := (hSw.at (w.heap.size) [vi ki i, vi ki u] (by simp)).c2; clear hSw; go_simp; try with_reducible rfl)
  simp only [za, zb, zc, zd]
  refine rd 2 ⟨some 22, _, _, _, _, none⟩ rfl (fun K hK => ?_)
  go_simp
  refine (KA.out _).mono ?_
  rintro e v1 ⟨rfl, hb1⟩
  refine hK.out _ _ (hHeld.below hb1) (fun hHeld => ?_)
  clear hK K hb1
  refine rd 5 ⟨some 25, _, _, _, _, none⟩ rfl (fun K hK => ?_)
  go_simp
  refine (KB.out _).mono ?_
  rintro e v2 ⟨rfl, hb2⟩
  refine hK.out _ _ (hHeld.below hb2) (fun hHeld => ?_)
  clear hK K hb2
  refine rd 6 ⟨some 26, _, _, _, _, none⟩ rfl (fun K hK => ?_)
  go_simp
  refine (TG.out _).mono ?_
  rintro e v3 ⟨rfl, hb3⟩
  refine hK.out _ _ (hHeld.below hb3) (fun hHeld => ?_)
  clear hK K hb3
  refine tks 7 ⟨some 19, _, _, _, _, none⟩ rfl ?_
  simp only [za, zb, zc, zd]
  refine tks 8 ⟨some 27, _, _, _, _, none⟩ rfl ?_
  simp only [za, zb, zc, zd]
  refine tks 9 ⟨some 28, _, _, _, _, none⟩ rfl ?_
  simp only [za, zb, zc, zd]
  refine tks 10 ⟨some 6, _, _, _, _, none⟩ rfl ?_
  simp only [za, zb, zc, zd]
  refine tks 11 ⟨some 7, _, _, _, _, none⟩ rfl ?_
  simp only [za, zb, zc, zd]
  refine wpAnyH_done (by kernel_rfl) ?_ _
  go_wp2_with fail
  go_meet
  case rel => exact ⟨rfl, rfl, hHeld⟩
 case rest =>
  clear c2_0_0 c2_0_1 c2_1_0 c2_1_1 c2_1_2 c2_1_3 c2_2_0 c2_2_1
  obtain ⟨rfl, rfl, K3⟩ := hcut
  clear K2
  skip
  obtain ⟨c3_0_0, c3_0_1⟩ := (bo1 K3).c2
  obtain ⟨c3_1_0, c3_1_1, c3_1_2, c3_1_3⟩ := (bo2 K3).c4
  obtain ⟨c3_2_0, c3_2_1⟩ := (bo3 K3).c2
  clear c3_0_0 c3_0_1 c3_1_0 c3_1_1 c3_1_2 c3_1_3 c3_2_0 c3_2_1
  obtain ⟨c3_0_0, c3_0_1⟩ := (bo1 K3).c2
  obtain ⟨z3_0_0, z3_0_1⟩ := (bo1 K3).f2
  obtain ⟨c3_1_0, c3_1_1, c3_1_2, c3_1_3⟩ := (bo2 K3).c4
  obtain ⟨c3_2_0, c3_2_1⟩ := (bo3 K3).c2
  have XF : Hid (Bx (wc.setCells (w.heap.size + 2) 0 [vi ki 0, vi ki 0]) (w.heap.size + 2) [vi ki 0, vi ki 0]) := (K3.out.at (w.heap.size + 2) [vi ki 0, vi ki 0] (by simp)).setAll _ rfl
  have BF : Hid (Below w.heap.size w (wc.setCells (w.heap.size + 2) 0 [vi ki 0, vi ki 0])) := below_setCells (by omega) _ _ _ K3.out.1
  have y0 := XF.out.c 0 rfl
  have y1 := XF.out.c 1 rfl
  simp only [World.setCells, Nat.zero_add] at y0 y1
  clear XF
  go_wp2
  exact bodyPost_ret (v := .tuple #[.agg #[vi ki 0, vi ki 0], vi ki E]) (by simp [results, Tryz.results53, go_sem, y0, y1]) rfl ⟨rfl, BF.out⟩
theorem add_err (i u j m d n V e : Int) (ka kb : Value) (he : e ≠ 0)
  (R : Hid (∀ w : World, Cvl.Lens w → Calls Tryz.prog 17 #[.agg #[vi ki i, vi ki u]] w fun r' w' => r' = zr (.bool true) ∧ Below w.heap.size w w'))
  (PR : Hid (∀ w : World, Calls Tryz.prog 18 #[.agg #[vi ki j, vi ki m, vi ki d, vi ki n]] w fun r' w' => r' = zr (.bool true) ∧ Below w.heap.size w w'))
  (KA : Hid (∀ w : World, Calls Tryz.prog 28 #[vi ki i] w fun r' w' => r' = zr (ka) ∧ Below w.heap.size w w'))
  (KB : Hid (∀ w : World, Calls Tryz.prog 28 #[vi ki j] w fun r' w' => r' = zr (kb) ∧ Below w.heap.size w w'))
  (TG : Hid (∀ w : World, Calls Tryz.prog 27 #[ka, kb] w fun r' w' => r' = zr (.tuple #[vi ki 0, vi ki 0]) ∧ Below w.heap.size w w'))
  (MD : Hid (∀ w : World, Cvl.Lens w → Calls Tryz.prog 79 #[.agg #[vi ki i, vi ki u], .agg #[vi ki j, vi ki m, vi ki d, vi ki n]] w fun r' w' => r' = zr (.tuple #[.agg #[vi ki 0, vi ki V], vi ki e]) ∧ Below w.heap.size w w'))
  (w : World) (hL : Hid (∀ W : World, Below w.heap.size w W → Cvl.Lens W)) :
  Calls Tryz.prog 53 #[.agg #[vi ki i, vi ki u], .agg #[vi ki j, vi ki m, vi ki d, vi ki n]] w fun r' w' => r' = zr (.tuple #[.agg #[vi ki 0, vi ki 0], vi ki e]) ∧ Below w.heap.size w w' := by
 have e1 : (e != 0) = true := bne_iff_ne.2 he
 have K0 := bsn3 w [vi ki i, vi ki u] 36 [vi ki j, vi ki m, vi ki d, vi ki n] 38 [vi ki 0, vi ki 0] 36
 go_enter Tryz.func53, Tryz.ntmps53
 go_wp2_with fail
 refine (R.out _ (hL.out _ K0.out.1)).mono ?_
 rintro e W1 ⟨rfl, hb⟩
 have K1 := bsb K0 hb
 clear hb K0
 obtain ⟨c1_0_0, c1_0_1⟩ := (bo1 K1).c2
 obtain ⟨c1_1_0, c1_1_1, c1_1_2, c1_1_3⟩ := (bo2 K1).c4
 obtain ⟨c1_2_0, c1_2_1⟩ := (bo3 K1).c2
 go_wp2_with fail
 refine (PR.out _).mono ?_
 rintro e W2 ⟨rfl, hb⟩
 have K2 := bsb K1 hb
 clear c1_0_0 c1_0_1 c1_1_0 c1_1_1 c1_1_2 c1_1_3 c1_2_0 c1_2_1
 clear hb K1
 obtain ⟨c2_0_0, c2_0_1⟩ := (bo1 K2).c2
 obtain ⟨c2_1_0, c2_1_1, c2_1_2, c2_1_3⟩ := (bo2 K2).c4
 obtain ⟨c2_2_0, c2_2_1⟩ := (bo3 K2).c2
 go_wp2_with fail
 go_cut [6, 7] (fun v0 v1 wx => v0 = vi ki 0 ∧ v1 = vi ki 0 ∧ Hid (BS w [(w.heap.size + 2, [vi ki 0, vi ki 0]), (w.heap.size + 1, [vi ki j, vi ki m, vi ki d, vi ki n]), (w.heap.size, [vi ki i, vi ki u])] wx))
 case first =>
  refine wp_region_held_drew (S := BS w [(w.heap.size + 2, [vi ki 0, vi ki 0]), (w.heap.size + 1, [vi ki j, vi ki m, vi ki d, vi ki n]), (w.heap.size, [vi ki i, vi ki u])]) (by kernel_rfl) K2.out.drew (fun hHeld => ?_)
  refine tks 0 ⟨some 20, _, _, _, _, none⟩ rfl ?_
  simp only [za, zb, zc, zd]
  refine tk (v := ?_) 1 ⟨some 21, _, _, _, _, none⟩ rfl ?_ ?_
  case refine_2 => (intro w9 hSw; obtain ⟨l0_0, l0_1⟩ := (hSw.at (w.heap.size + 2) [vi ki 0, vi ki 0] (by simp)).c2; obtain ⟨l1_0, l1_1, l1_2, l1_3⟩ := (hSw.at (w.heap.size + 1) [vi ki j, vi ki m, vi ki d, vi ki n] (by simp)).c4; obtain ⟨l2_0, l2_1⟩ := (hSw.at (w.heap.size) [vi ki i, vi ki u] (by simp)).c2; clear hSw; go_simp; try with_reducible rfl)
  simp only [za, zb, zc, zd]
  refine tks 3 ⟨some 23, _, _, _, _, none⟩ rfl ?_
  simp only [za, zb, zc, zd]
  refine tk (v := ?_) 4 ⟨some 24, _, _, _, _, none⟩ rfl ?_ ?_
  case refine_2 => (intro w9 hSw; obtain ⟨l0_0, l0_1⟩ := (hSw.at (w.heap.size + 2) [vi ki 0, vi ki 0] (by simp)).c2; obtain ⟨l1_0, l1_1, l1_2, l1_3⟩ := (hSw.at (w.heap.size + 1) [vi ki j, vi ki m, vi ki d, vi ki n] (by simp)).c4; obtain ⟨l2_0, l2_1⟩ := (hSw.at (w.heap.size) [vi ki i, vi ki u] (by simp)).c2; clear hSw; go_simp; try with_reducible rfl)
  simp only [za, zb, zc, zd]
  refine rd 2 ⟨some 22, _, _, _, _, none⟩ rfl (fun K hK => ?_)
  go_simp
  refine (KA.out _).mono ?_
  rintro e v1 ⟨rfl, hb1⟩
  refine hK.out _ _ (hHeld.below hb1) (fun hHeld => ?_)
  clear hK K hb1
  refine rd 5 ⟨some 25, _, _, _, _, none⟩ rfl (fun K hK => ?_)
  go_simp
  refine (KB.out _).mono ?_
  rintro e v2 ⟨rfl, hb2⟩
  refine hK.out _ _ (hHeld.below hb2) (fun hHeld => ?_)
  clear hK K hb2
  refine rd 6 ⟨some 26, _, _, _, _, none⟩ rfl (fun K hK => ?_)
  go_simp
  refine (TG.out _).mono ?_
  rintro e v3 ⟨rfl, hb3⟩
  refine hK.out _ _ (hHeld.below hb3) (fun hHeld => ?_)
  clear hK K hb3
  refine tks 7 ⟨some 19, _, _, _, _, none⟩ rfl ?_
  simp only [za, zb, zc, zd]
  refine tks 8 ⟨some 27, _, _, _, _, none⟩ rfl ?_
  simp only [za, zb, zc, zd]
  refine tks 9 ⟨some 28, _, _, _, _, none⟩ rfl ?_
  simp only [za, zb, zc, zd]
  refine tks 10 ⟨some 6, _, _, _, _, none⟩ rfl ?_
  simp only [za, zb, zc, zd]
  refine tks 11 ⟨some 7, _, _, _, _, none⟩ rfl ?_
  simp only [za, zb, zc, zd]
  refine wpAnyH_done (by kernel_rfl) ?_ _
  go_wp2_with fail
  go_meet
  case rel => exact ⟨rfl, rfl, hHeld⟩
 case rest =>
  clear c2_0_0 c2_0_1 c2_1_0 c2_1_1 c2_1_2 c2_1_3 c2_2_0 c2_2_1
  obtain ⟨rfl, rfl, K3⟩ := hcut
  clear K2
  skip
  obtain ⟨c3_0_0, c3_0_1⟩ := (bo1 K3).c2
  obtain ⟨c3_1_0, c3_1_1, c3_1_2, c3_1_3⟩ := (bo2 K3).c4
  obtain ⟨c3_2_0, c3_2_1⟩ := (bo3 K3).c2
  go_wp2_with fail
  refine (MD.out _ (hL.out _ K3.out.1)).mono ?_
  rintro e W4 ⟨rfl, hb⟩
  have K4 := bsb K3 hb
  clear c3_0_0 c3_0_1 c3_1_0 c3_1_1 c3_1_2 c3_1_3 c3_2_0 c3_2_1
  clear hb K3
  obtain ⟨c4_0_0, c4_0_1⟩ := (bo1 K4).c2
  obtain ⟨c4_1_0, c4_1_1, c4_1_2, c4_1_3⟩ := (bo2 K4).c4
  obtain ⟨c4_2_0, c4_2_1⟩ := (bo3 K4).c2
  have Mz4 := bsn K4 [vi ki 0, vi ki V] 36
  have lt4_0 := (bo1 K4).1
  have lt4_1 := (bo2 K4).1
  have lt4_2 := (bo3 K4).1
  go_upto_region 7 with fail
  refine bs_to Mz4 ?_
  clear c4_0_0 c4_0_1 c4_1_0 c4_1_1 c4_1_2 c4_1_3 c4_2_0 c4_2_1
  intro W5 K5
  clear Mz4 K4
  obtain ⟨c5_0_0, c5_0_1⟩ := (bo1 K5).c2
  obtain ⟨c5_1_0, c5_1_1⟩ := (bo2 K5).c2
  obtain ⟨z5_1_0, z5_1_1⟩ := (bo2 K5).f2
  obtain ⟨c5_2_0, c5_2_1, c5_2_2, c5_2_3⟩ := (bo3 K5).c4
  obtain ⟨c5_3_0, c5_3_1⟩ := (bo4 K5).c2
  have XF : Hid (Bx (W5.setCells (w.heap.size + 2) 0 [vi ki 0, vi ki 0]) (w.heap.size + 2) [vi ki 0, vi ki 0]) := (K5.out.at (w.heap.size + 2) [vi ki 0, vi ki 0] (by simp)).setAll _ rfl
  have BF : Hid (Below w.heap.size w (W5.setCells (w.heap.size + 2) 0 [vi ki 0, vi ki 0])) := below_setCells (by omega) _ _ _ K5.out.1
  have y0 := XF.out.c 0 rfl
  have y1 := XF.out.c 1 rfl
  simp only [World.setCells, Nat.zero_add] at y0 y1
  clear XF
  go_wp2
  exact bodyPost_ret (v := .tuple #[.agg #[vi ki 0, vi ki 0], vi ki e]) (by simp [results, Tryz.results53, go_sem, y0, y1]) rfl ⟨rfl, BF.out⟩
theorem add_ok (i u j m d n V X E : Int) (ka kb : Value)
  (R : Hid (∀ w : World, Cvl.Lens w → Calls Tryz.prog 17 #[.agg #[vi ki i, vi ki u]] w fun r' w' => r' = zr (.bool true) ∧ Below w.heap.size w w'))
  (PR : Hid (∀ w : World, Calls Tryz.prog 18 #[.agg #[vi ki j, vi ki m, vi ki d, vi ki n]] w fun r' w' => r' = zr (.bool true) ∧ Below w.heap.size w w'))
  (KA : Hid (∀ w : World, Calls Tryz.prog 28 #[vi ki i] w fun r' w' => r' = zr (ka) ∧ Below w.heap.size w w'))
  (KB : Hid (∀ w : World, Calls Tryz.prog 28 #[vi ki j] w fun r' w' => r' = zr (kb) ∧ Below w.heap.size w w'))
  (TG : Hid (∀ w : World, Calls Tryz.prog 27 #[ka, kb] w fun r' w' => r' = zr (.tuple #[vi ki 0, vi ki 0]) ∧ Below w.heap.size w w'))
  (MD : Hid (∀ w : World, Cvl.Lens w → Calls Tryz.prog 79 #[.agg #[vi ki i, vi ki u], .agg #[vi ki j, vi ki m, vi ki d, vi ki n]] w fun r' w' => r' = zr (.tuple #[.agg #[vi ki 0, vi ki V], vi ki 0]) ∧ Below w.heap.size w w'))
  (MO : Hid (∀ w : World, Cvl.Lens w → Calls Tryz.prog 30 #[.agg #[vi ki 0, vi ki V], vi ki n] w fun r' w' => r' = zr (.tuple #[.agg #[vi ki 0, vi ki X], vi ki E]) ∧ Below w.heap.size w w'))
  (w : World) (hL : Hid (∀ W : World, Below w.heap.size w W → Cvl.Lens W)) :
  Calls Tryz.prog 53 #[.agg #[vi ki i, vi ki u], .agg #[vi ki j, vi ki m, vi ki d, vi ki n]] w fun r' w' => r' = zr (.tuple #[.agg #[vi ki 0, vi ki X], vi ki E]) ∧ Below w.heap.size w w' := by
 have K0 := bsn3 w [vi ki i, vi ki u] 36 [vi ki j, vi ki m, vi ki d, vi ki n] 38 [vi ki 0, vi ki 0] 36
 go_enter Tryz.func53, Tryz.ntmps53
 go_wp2_with fail
 refine (R.out _ (hL.out _ K0.out.1)).mono ?_
 rintro e W1 ⟨rfl, hb⟩
 have K1 := bsb K0 hb
 clear hb K0
 obtain ⟨c1_0_0, c1_0_1⟩ := (bo1 K1).c2
 obtain ⟨c1_1_0, c1_1_1, c1_1_2, c1_1_3⟩ := (bo2 K1).c4
 obtain ⟨c1_2_0, c1_2_1⟩ := (bo3 K1).c2
 go_wp2_with fail
 refine (PR.out _).mono ?_
 rintro e W2 ⟨rfl, hb⟩
 have K2 := bsb K1 hb
 clear c1_0_0 c1_0_1 c1_1_0 c1_1_1 c1_1_2 c1_1_3 c1_2_0 c1_2_1
 clear hb K1
 obtain ⟨c2_0_0, c2_0_1⟩ := (bo1 K2).c2
 obtain ⟨c2_1_0, c2_1_1, c2_1_2, c2_1_3⟩ := (bo2 K2).c4
 obtain ⟨c2_2_0, c2_2_1⟩ := (bo3 K2).c2
 go_wp2_with fail
 go_cut [6, 7] (fun v0 v1 wx => v0 = vi ki 0 ∧ v1 = vi ki 0 ∧ Hid (BS w [(w.heap.size + 2, [vi ki 0, vi ki 0]), (w.heap.size + 1, [vi ki j, vi ki m, vi ki d, vi ki n]), (w.heap.size, [vi ki i, vi ki u])] wx))
 case first =>
  refine wp_region_held_drew (S := BS w [(w.heap.size + 2, [vi ki 0, vi ki 0]), (w.heap.size + 1, [vi ki j, vi ki m, vi ki d, vi ki n]), (w.heap.size, [vi ki i, vi ki u])]) (by kernel_rfl) K2.out.drew (fun hHeld => ?_)
  refine tks 0 ⟨some 20, _, _, _, _, none⟩ rfl ?_
  simp only [za, zb, zc, zd]
  refine tk (v := ?_) 1 ⟨some 21, _, _, _, _, none⟩ rfl ?_ ?_
  case refine_2 => (intro w9 hSw; obtain ⟨l0_0, l0_1⟩ := (hSw.at (w.heap.size + 2) [vi ki 0, vi ki 0] (by simp)).c2; obtain ⟨l1_0, l1_1, l1_2, l1_3⟩ := (hSw.at (w.heap.size + 1) [vi ki j, vi ki m, vi ki d, vi ki n] (by simp)).c4; obtain ⟨l2_0, l2_1⟩ := (hSw.at (w.heap.size) [vi ki i, vi ki u] (by simp)).c2; clear hSw; go_simp; try with_reducible rfl)
  simp only [za, zb, zc, zd]
  refine tks 3 ⟨some 23, _, _, _, _, none⟩ rfl ?_
  simp only [za, zb, zc, zd]
  refine tk (v := ?_) 4 ⟨some 24, _, _, _, _, none⟩ rfl ?_ ?_
  case refine_2 => (intro w9 hSw; obtain ⟨l0_0, l0_1⟩ := (hSw.at (w.heap.size + 2) [vi ki 0, vi ki 0] (by simp)).c2; obtain ⟨l1_0, l1_1, l1_2, l1_3⟩ := (hSw.at (w.heap.size + 1) [vi ki j, vi ki m, vi ki d, vi ki n] (by simp)).c4; obtain ⟨l2_0, l2_1⟩ := (hSw.at (w.heap.size) [vi ki i, vi ki u] (by simp)).c2; clear hSw; go_simp; try with_reducible rfl)
  simp only [za, zb, zc, zd]
  refine rd 2 ⟨some 22, _, _, _, _, none⟩ rfl (fun K hK => ?_)
  go_simp
  refine (KA.out _).mono ?_
  rintro e v1 ⟨rfl, hb1⟩
  refine hK.out _ _ (hHeld.below hb1) (fun hHeld => ?_)
  clear hK K hb1
  refine rd 5 ⟨some 25, _, _, _, _, none⟩ rfl (fun K hK => ?_)
  go_simp
  refine (KB.out _).mono ?_
  rintro e v2 ⟨rfl, hb2⟩
  refine hK.out _ _ (hHeld.below hb2) (fun hHeld => ?_)
  clear hK K hb2
  refine rd 6 ⟨some 26, _, _, _, _, none⟩ rfl (fun K hK => ?_)
  go_simp
  refine (TG.out _).mono ?_
  rintro e v3 ⟨rfl, hb3⟩
  refine hK.out _ _ (hHeld.below hb3) (fun hHeld => ?_)
  clear hK K hb3
  refine tks 7 ⟨some 19, _, _, _, _, none⟩ rfl ?_
  simp only [za, zb, zc, zd]
  refine tks 8 ⟨some 27, _, _, _, _, none⟩ rfl ?_
  simp only [za, zb, zc, zd]
  refine tks 9 ⟨some 28, _, _, _, _, none⟩ rfl ?_
  simp only [za, zb, zc, zd]
  refine tks 10 ⟨some 6, _, _, _, _, none⟩ rfl ?_
  simp only [za, zb, zc, zd]
  refine tks 11 ⟨some 7, _, _, _, _, none⟩ rfl ?_
  simp only [za, zb, zc, zd]
  refine wpAnyH_done (by kernel_rfl) ?_ _
  go_wp2_with fail
  go_meet
  case rel => exact ⟨rfl, rfl, hHeld⟩
 case rest =>
  clear c2_0_0 c2_0_1 c2_1_0 c2_1_1 c2_1_2 c2_1_3 c2_2_0 c2_2_1
  obtain ⟨rfl, rfl, K3⟩ := hcut
  clear K2
  skip
  obtain ⟨c3_0_0, c3_0_1⟩ := (bo1 K3).c2
  obtain ⟨c3_1_0, c3_1_1, c3_1_2, c3_1_3⟩ := (bo2 K3).c4
  obtain ⟨c3_2_0, c3_2_1⟩ := (bo3 K3).c2
  go_wp2_with fail
  refine (MD.out _ (hL.out _ K3.out.1)).mono ?_
  rintro e W4 ⟨rfl, hb⟩
  have K4 := bsb K3 hb
  clear c3_0_0 c3_0_1 c3_1_0 c3_1_1 c3_1_2 c3_1_3 c3_2_0 c3_2_1
  clear hb K3
  obtain ⟨c4_0_0, c4_0_1⟩ := (bo1 K4).c2
  obtain ⟨c4_1_0, c4_1_1, c4_1_2, c4_1_3⟩ := (bo2 K4).c4
  obtain ⟨c4_2_0, c4_2_1⟩ := (bo3 K4).c2
  have Mz4 := bsn K4 [vi ki 0, vi ki V] 36
  have lt4_0 := (bo1 K4).1
  have lt4_1 := (bo2 K4).1
  have lt4_2 := (bo3 K4).1
  go_upto_region 7 with fail
  refine bs_to Mz4 ?_
  clear c4_0_0 c4_0_1 c4_1_0 c4_1_1 c4_1_2 c4_1_3 c4_2_0 c4_2_1
  intro W5 K5
  clear Mz4 K4
  obtain ⟨c5_0_0, c5_0_1⟩ := (bo1 K5).c2
  obtain ⟨c5_1_0, c5_1_1⟩ := (bo2 K5).c2
  obtain ⟨c5_2_0, c5_2_1, c5_2_2, c5_2_3⟩ := (bo3 K5).c4
  obtain ⟨c5_3_0, c5_3_1⟩ := (bo4 K5).c2
  go_wp2_with fail
  refine (MO.out _ (hL.out _ K5.out.1)).mono ?_
  rintro e W6 ⟨rfl, hb⟩
  have K6 := bsb K5 hb
  clear c5_0_0 c5_0_1 c5_1_0 c5_1_1 c5_2_0 c5_2_1 c5_2_2 c5_2_3 c5_3_0 c5_3_1
  clear hb K5
  obtain ⟨c6_0_0, c6_0_1⟩ := (bo1 K6).c2
  obtain ⟨c6_1_0, c6_1_1⟩ := (bo2 K6).c2
  obtain ⟨z6_1_0, z6_1_1⟩ := (bo2 K6).f2
  obtain ⟨c6_2_0, c6_2_1, c6_2_2, c6_2_3⟩ := (bo3 K6).c4
  obtain ⟨c6_3_0, c6_3_1⟩ := (bo4 K6).c2
  have XF : Hid (Bx (W6.setCells (w.heap.size + 2) 0 [vi ki 0, vi ki X]) (w.heap.size + 2) [vi ki 0, vi ki X]) := (K6.out.at (w.heap.size + 2) [vi ki 0, vi ki 0] (by simp)).setAll _ rfl
  have BF : Hid (Below w.heap.size w (W6.setCells (w.heap.size + 2) 0 [vi ki 0, vi ki X])) := below_setCells (by omega) _ _ _ K6.out.1
  have y0 := XF.out.c 0 rfl
  have y1 := XF.out.c 1 rfl
  simp only [World.setCells, Nat.zero_add] at y0 y1
  clear XF
  go_wp2
  exact bodyPost_ret (v := .tuple #[.agg #[vi ki 0, vi ki X], vi ki E]) (by simp [results, Tryz.results53, go_sem, y0, y1]) rfl ⟨rfl, BF.out⟩
def s1v (d y m q M : Int) : Int := if M = 0 then d else Cvl.shV y m q M
def s1k (y m q M : Int) : Bool := if M = 0 then true else (decide (Cvl.shE y m q M = 0) && Dy.dok (Cvl.shV y m q M))
def mdk (d y m q M D : Int) : Bool := s1k y m q M && Dy.dok (s1v d y m q M + D)
def mdv (u y m q M D : Int) : Int := (s1v (u / 86400000000) y m q M + D) * 86400000000 + u % 86400000000
theorem o_sum (s : Int) : Dy.oV (smV s) (smE s) = (if Dy.dok s = true then s else 0) ∧ Dy.oE (smV s) (smE s) = (if Dy.dok s = true then 0 else 10) := by
 by_cases h : -9223372036854775808 ≤ s ∧ s ≤ 9223372036854775807
 ·rw [smV_in h.1 h.2, smE_in h.1 h.2]
  unfold Dy.oV Dy.oE
  by_cases k : Dy.dok s = true
  ·exact ⟨(if_pos ⟨rfl, k⟩).trans (if_pos k).symm, (if_pos ⟨rfl, k⟩).trans (if_pos k).symm⟩
  ·exact ⟨(if_neg (fun q => k q.2)).trans (if_neg k).symm, (if_neg (fun q => k q.2)).trans (if_neg k).symm⟩
 ·have k : ¬ Dy.dok s = true := fun q => h (by have := Dy.dok_yes q; omega)
  have e : smE s ≠ 0 := by unfold smE; rw [if_neg h]; decide
  unfold Dy.oV Dy.oE
  exact ⟨(if_neg (fun q => e q.1)).trans (if_neg k).symm, (if_neg (fun q => e q.1)).trans (if_neg k).symm⟩
theorem of_right {u : Int} (h : Dy.dok (u / 86400000000) = true) : Dy.ofI 0 u = 0 ∧ Dy.ofD 0 u = u / 86400000000 ∧ Dy.ofU 0 u = u % 86400000000 ∧ Dy.ofE 0 u = 0 := by
 have k : Dy.sR 0 u = true := h
 exact ⟨if_pos k, if_pos ⟨k, rfl⟩, if_pos ⟨k, rfl⟩, if_pos k⟩
theorem st_right {d us : Int} (h : Dy.dok d = true) (h0 : 0 ≤ us) (h1 : us < 86400000000) : Dy.stI 0 d us = 0 ∧ Dy.stV 0 d us = d * 86400000000 + us ∧ Dy.stE 0 d us = 0 :=
 Dy.st_in ⟨h, h0, by omega⟩ (by rw [show (d * 86400000000 + us) / 86400000000 = d by omega]; exact h)
theorem add_right {d n : Int} (h : Dy.dok d = true) : Dy.mvI 0 d = 0 ∧ Dy.mvV 0 d (smV (d + n)) (smE (d + n)) = (if Dy.dok (d + n) = true then d + n else 0) ∧ Dy.mvE 0 d (smV (d + n)) (smE (d + n)) = (if Dy.dok (d + n) = true then 0 else 10) := by
 obtain ⟨a, b, c⟩ := Dy.mv_yes (show Dy.dR 0 d = true from h) (smV (d + n)) (smE (d + n))
 rw [a, b, c, (o_sum (d + n)).1, (o_sum (d + n)).2]
 exact ⟨rfl, rfl, rfl⟩
theorem shf_right {d y m q n : Int} (h : Dy.dok d = true) (hn : n ≠ 0) : Dy.mvI 0 d = 0 ∧ Dy.mvV 0 d (Cvl.shV y m q n) (Cvl.shE y m q n) = (if s1k y m q n = true then Cvl.shV y m q n else 0) ∧ Dy.mvE 0 d (Cvl.shV y m q n) (Cvl.shE y m q n) = (if s1k y m q n = true then 0 else 10) := by
 obtain ⟨a, b, c⟩ := Dy.mv_yes (show Dy.dR 0 d = true from h) (Cvl.shV y m q n) (Cvl.shE y m q n)
 have e : s1k y m q n = true ↔ (Cvl.shE y m q n = 0 ∧ Dy.dok (Cvl.shV y m q n) = true) := by unfold s1k; rw [if_neg hn]; simp
 rw [a, b, c]
 unfold Dy.oV Dy.oE
 by_cases k : s1k y m q n = true
 ·exact ⟨rfl, (if_pos (e.1 k)).trans (if_pos k).symm, (if_pos (e.1 k)).trans (if_pos k).symm⟩
 ·exact ⟨rfl, (if_neg (fun z => k (e.2 z))).trans (if_neg k).symm, (if_neg (fun z => k (e.2 z))).trans (if_neg k).symm⟩
theorem s1_dok {d y m q M : Int} (h : Dy.dok d = true) (k : s1k y m q M = true) : Dy.dok (s1v d y m q M) = true := by
 unfold s1k at k
 unfold s1v
 by_cases hM : M = 0
 ·rw [if_pos hM]; exact h
 ·rw [if_neg hM] at k ⊢
  simp at k
  exact k.2
theorem us_bd (u : Int) : 0 ≤ u % 86400000000 ∧ u % 86400000000 < 86400000000 := ⟨Int.emod_nonneg _ (by decide), Int.emod_lt_of_pos _ (by decide)⟩
theorem dok_bd {u : Int} (h : Dy.dok (u / 86400000000) = true) : -9223372036854775808 ≤ u ∧ u ≤ 9223372036854775807 := by have := Dy.dok_yes h; omega
theorem moved_any (j u M D U y m q : Int) (hq : Cv.Is (u / 86400000000) y m q) (hu : Dy.dok (u / 86400000000) = true) (D1 : -9223372036854775808 ≤ D) (D2 : D ≤ 9223372036854775807) (w : World) (hL : Cvl.Lens w) :
  Calls Tryz.prog 79 #[.agg #[vi ki 0, vi ki u], .agg #[vi ki j, vi ki M, vi ki D, vi ki U]] w fun r w' => r = zr (.tuple #[.agg #[vi ki 0, vi ki (if mdk (u / 86400000000) y m q M D = true then mdv u y m q M D else 0)], vi ki (if mdk (u / 86400000000) y m q M D = true then 0 else 10)]) ∧ Below w.heap.size w w' := by
 obtain ⟨u1, u2⟩ := dok_bd hu
 obtain ⟨s1, s2⟩ := us_bd u
 have OF : ∀ w : World, Cvl.Lens w → Calls Tryz.prog 98 #[.agg #[vi ki 0, vi ki u]] w fun r' w' => r' = zr (.tuple #[.agg #[vi ki 0, vi ki (u / 86400000000)], vi ki (u % 86400000000), vi ki 0]) ∧ Below w.heap.size w w' := fun w hw => by
  have R := Dy.sof_any 0 u u1 u2 w hw
  obtain ⟨a, b, c, d⟩ := of_right hu
  rw [a, b, c, d] at R
  exact R
 have AD : ∀ d, Dy.dok d = true → ∀ w : World, Cvl.Lens w → Calls Tryz.prog 100 #[.agg #[vi ki 0, vi ki d], vi ki D] w fun r' w' => r' = zr (.tuple #[.agg #[vi ki 0, vi ki (if Dy.dok (d + D) = true then d + D else 0)], vi ki (if Dy.dok (d + D) = true then 0 else 10)]) ∧ Below w.heap.size w w' := fun d hd w hw => by
  have R := Dy.dadd_any 0 d D D1 D2 w hw
  obtain ⟨a, b, c⟩ := add_right (n := D) hd
  rw [a, b, c] at R
  exact R
 have SM : ∀ d, Dy.dok d = true → ∀ w : World, Cvl.Lens w → Calls Tryz.prog 101 #[.agg #[vi ki 0, vi ki d], vi ki (u % 86400000000)] w fun r' w' => r' = zr (.tuple #[.agg #[vi ki 0, vi ki (d * 86400000000 + u % 86400000000)], vi ki 0]) ∧ Below w.heap.size w w' := fun d hd w hw => by
  have R := Dy.stamp_any 0 d (u % 86400000000) w hw
  obtain ⟨a, b, c⟩ := st_right hd s1 s2
  rw [a, b, c] at R
  exact R
 unfold mdk mdv
 by_cases hM : M = 0
 ·subst hM
  rw [show s1k y m q 0 = true from rfl, show s1v (u / 86400000000) y m q 0 = u / 86400000000 from rfl, Bool.true_and]
  have A := AD _ hu
  by_cases k : Dy.dok (u / 86400000000 + D) = true
  ·rw [if_pos k, if_pos k] at A ⊢
   exact md_zok j u D U _ _ 0 _ _ _ 0 OF A (SM _ k) w (Dy.lens_of hL)
  ·rw [if_neg k, if_neg k] at A ⊢
   exact md_zad j u D U _ _ 0 _ 0 0 10 (by decide) OF A w (Dy.lens_of hL)
 ·have SH : ∀ w : World, Cvl.Lens w → Calls Tryz.prog 99 #[.agg #[vi ki 0, vi ki (u / 86400000000)], vi ki M] w fun r' w' => r' = zr (.tuple #[.agg #[vi ki 0, vi ki (if s1k y m q M = true then Cvl.shV y m q M else 0)], vi ki (if s1k y m q M = true then 0 else 10)]) ∧ Below w.heap.size w w' := fun w hw => by
   have R := Dy.dshift_any 0 (u / 86400000000) M y m q hq w hw
   obtain ⟨a, b, c⟩ := shf_right (d := u / 86400000000) (y := y) (m := m) (q := q) hu hM
   rw [a, b, c] at R
   exact R
  by_cases k1 : s1k y m q M = true
  ·have hd := s1_dok hu k1
   rw [if_pos k1, if_pos k1] at SH
   rw [show s1v (u / 86400000000) y m q M = Cvl.shV y m q M from if_neg hM] at hd ⊢
   rw [k1, Bool.true_and]
   have A := AD _ hd
   by_cases k : Dy.dok (Cvl.shV y m q M + D) = true
   ·rw [if_pos k, if_pos k] at A ⊢
    exact md_ok j u M D U _ _ _ _ _ _ 0 hM OF SH A (SM _ k) w (Dy.lens_of hL)
   ·rw [if_neg k, if_neg k] at A ⊢
    exact md_ad j u M D U _ _ _ _ 0 0 10 hM (by decide) OF SH A w (Dy.lens_of hL)
  ·rw [if_neg k1, if_neg k1] at SH
   have k1' : s1k y m q M = false := by simpa using k1
   rw [k1', Bool.false_and, if_neg (by decide), if_neg (by decide)]
   exact md_sh j u M D U _ _ _ 0 0 0 10 hM (by decide) OF SH w (Dy.lens_of hL)
def AddIs (i u j m d n I V E : Int) : Prop :=
 (¬ (Dy.sR i u = true ∧ Sp.pR j m d n = true) ∧ I = 0 ∧ V = 0 ∧ E = 1) ∨
 (Dy.sR i u = true ∧ Sp.pR j m d n = true ∧ ¬ (i = 0 ∧ j = 0) ∧ I = tgI i j ∧ V = 0 ∧ E = tgE i j) ∨
 (i = 0 ∧ j = 0 ∧ Dy.dok (u / 86400000000) = true ∧ Sp.pR 0 m d n = true ∧ ∃ y p q, Cv.Is (u / 86400000000) y p q ∧ I = 0 ∧ V = (if mdk (u / 86400000000) y p q m d = true then moV (mdv u y p q m d) n else 0) ∧ E = (if mdk (u / 86400000000) y p q m d = true then moE (mdv u y p q m d) n else 10))
theorem inf3 {i u : Int} (h : Dy.sR i u = true) : i = -1 ∨ i = 0 ∨ i = 1 := by
 unfold Dy.sR at h
 split at h
 ·exact .inr (.inl ‹_›)
 ·have := of_decide_eq_true h
  rcases this.1 with e | e
  ·exact .inl e
  ·exact .inr (.inr e)
theorem pinf3 {j m d n : Int} (h : Sp.pR j m d n = true) : j = -1 ∨ j = 0 ∨ j = 1 := by
 unfold Sp.pR at h
 split at h
 ·exact .inr (.inl ‹_›)
 ·have := of_decide_eq_true h
  rcases this.1 with e | e
  ·exact .inl e
  ·exact .inr (.inr e)
theorem pR_bd {m d n : Int} (h : Sp.pR 0 m d n = true) : -2147483647 ≤ m ∧ m ≤ 2147483647 ∧ -2147483647 ≤ d ∧ d ≤ 2147483647 ∧ -9223372036854775807 ≤ n ∧ n ≤ 9223372036854775807 := by
 unfold Sp.pR at h
 rw [if_pos rfl] at h
 unfold Sp.cnt at h
 simp only [Bool.and_eq_true, decide_eq_true_eq] at h
 omega
theorem pR_of {m d n : Int} (h : -2147483647 ≤ m ∧ m ≤ 2147483647 ∧ -2147483647 ≤ d ∧ d ≤ 2147483647 ∧ -9223372036854775807 ≤ n ∧ n ≤ 9223372036854775807) : Sp.pR 0 m d n = true := by
 unfold Sp.pR
 rw [if_pos rfl]
 unfold Sp.cnt
 simp only [Bool.and_eq_true, decide_eq_true_eq]
 omega
theorem tg_zero {i j : Int} (hi : i = -1 ∨ i = 0 ∨ i = 1) (hj : j = -1 ∨ j = 0 ∨ j = 1) (h : ¬ (i = 0 ∧ j = 0)) : tgI i j ≠ 0 ∨ tgE i j ≠ 0 := by
 rcases hi with rfl | rfl | rfl <;> rcases hj with rfl | rfl | rfl <;> first | (exact .inl (by decide)) | (exact .inr (by decide)) | (exact absurd ⟨rfl, rfl⟩ h)
theorem kind_b (i : Int) (w : World) : Calls Tryz.prog 28 #[vi ki i] w fun r w' => r = zr (kdV i) ∧ Below w.heap.size w w' := (kind_any i w).mono (fun r w2 h => ⟨h.1, by rw [h.2]; exact Below.refl _ _⟩)
theorem mdv_dok {u y p q m d : Int} (k : mdk (u / 86400000000) y p q m d = true) : Dy.dok (mdv u y p q m d / 86400000000) = true := by
 unfold mdk at k
 unfold mdv
 have := us_bd u
 rw [show ((s1v (u / 86400000000) y p q m + d) * 86400000000 + u % 86400000000) / 86400000000 = s1v (u / 86400000000) y p q m + d by omega]
 simp at k
 exact k.2
theorem sadd_any (i u j m d n I V E : Int) (h : AddIs i u j m d n I V E) (u1 : -9223372036854775808 ≤ u) (u2 : u ≤ 9223372036854775807) (n1 : -9223372036854775808 ≤ n) (n2 : n ≤ 9223372036854775807) (w : World) (hL : Cvl.Lens w) :
  Calls Tryz.prog 53 #[.agg #[vi ki i, vi ki u], .agg #[vi ki j, vi ki m, vi ki d, vi ki n]] w fun r w' => r = zr (.tuple #[.agg #[vi ki I, vi ki V], vi ki E]) ∧ Below w.heap.size w w' := by
 have RR : ∀ c, Dy.sR i u = c → ∀ w : World, Cvl.Lens w → Calls Tryz.prog 17 #[.agg #[vi ki i, vi ki u]] w fun r' w' => r' = zr (.bool c) ∧ Below w.heap.size w w' := fun c hc w hw => by rw [← hc]; exact Dy.rst_any i u u1 u2 w hw
 have PP : ∀ c, Sp.pR j m d n = c → ∀ w : World, Calls Tryz.prog 18 #[.agg #[vi ki j, vi ki m, vi ki d, vi ki n]] w fun r' w' => r' = zr (.bool c) ∧ Below w.heap.size w w' := fun c hc w => by rw [← hc]; exact Sp.pr_any j m d n n1 n2 w
 rcases h with ⟨h, rfl, rfl, rfl⟩ | ⟨h1, h2, h3, rfl, rfl, rfl⟩ | ⟨rfl, rfl, h1, h2, y, p, q, hq, rfl, rfl, rfl⟩
 ·by_cases h1 : Dy.sR i u = true
  ·have h2 : Sp.pR j m d n = false := by cases hp : Sp.pR j m d n; rfl; exact absurd ⟨h1, hp⟩ h
   exact add_no2 i u j m d n (RR _ h1) (PP _ h2) w (Dy.lens_of hL)
  ·exact add_no1 i u j m d n (RR _ (by simpa using h1)) w (Dy.lens_of hL)
 ·have TG := fun w => tog_any i j (inf3 h1) (pinf3 h2) w
  rcases tg_zero (inf3 h1) (pinf3 h2) h3 with k | k
  ·exact add_infi i u j m d n _ _ _ _ k (RR _ h1) (PP _ h2) (fun w => kind_b i w) (fun w => kind_b j w) TG w (Dy.lens_of hL)
  ·by_cases k0 : tgI i j = 0
   ·rw [k0] at TG ⊢
    exact add_infe i u j m d n _ _ _ k (RR _ h1) (PP _ h2) (fun w => kind_b i w) (fun w => kind_b j w) TG w (Dy.lens_of hL)
   ·exact add_infi i u j m d n _ _ _ _ k0 (RR _ h1) (PP _ h2) (fun w => kind_b i w) (fun w => kind_b j w) TG w (Dy.lens_of hL)
 ·have TG := fun w => tog_any 0 0 (.inr (.inl rfl)) (.inr (.inl rfl)) w
  have b := pR_bd h2
  have MD := fun w hw => moved_any 0 u m d n y p q hq h1 (by omega) (by omega) w hw
  by_cases k : mdk (u / 86400000000) y p q m d = true
  ·rw [if_pos k, if_pos k] at MD ⊢
   obtain ⟨v1, v2⟩ := dok_bd (mdv_dok k)
   exact add_ok 0 u 0 m d n _ _ _ _ _ (RR _ h1) (PP _ h2) (fun w => kind_b 0 w) (fun w => kind_b 0 w) TG MD (fun w hw => more_any 0 _ n v1 v2 n1 n2 w hw) w (Dy.lens_of hL)
  ·rw [if_neg k, if_neg k] at MD ⊢
   exact add_err 0 u 0 m d n 0 10 _ _ (by decide) (RR _ h1) (PP _ h2) (fun w => kind_b 0 w) (fun w => kind_b 0 w) TG MD w (Dy.lens_of hL)
theorem bey_any (i u j v d c : Int)
  (CP : Hid (∀ w : World, Cvl.Lens w → Calls Tryz.prog 62 #[.agg #[vi ki i, vi ki u], .agg #[vi ki j, vi ki v]] w fun r' w' => r' = zr (vi ki c) ∧ Below w.heap.size w w'))
  (w : World) (hL : Hid (∀ W : World, Below w.heap.size w W → Cvl.Lens W)) :
  Calls Tryz.prog 38 #[.agg #[vi ki i, vi ki u, vi ki j, vi ki v, vi ki d]] w fun r' w' => r' = zr (.bool (c == d)) ∧ Below w.heap.size w w' := by
 have K0 := bsn1 w [vi ki i, vi ki u, vi ki j, vi ki v, vi ki d] 89
 go_enter Tryz.func38, Tryz.ntmps38
 go_upto_region 1 with fail
 refine bs_to K0 ?_
 clear K0
 intro W0 K0
 go_wp2_with fail
 refine wp_region_held_drew (S := BS w [(w.heap.size, [vi ki i, vi ki u, vi ki j, vi ki v, vi ki d])]) (by kernel_rfl) K0.out.drew (fun hHeld => ?_)
 refine tks 0 ⟨some 3, _, _, _, _, none⟩ rfl ?_
 simp only [za, zb, zc, zd]
 refine tk (v := ?_) 1 ⟨some 4, _, _, _, _, none⟩ rfl ?_ ?_
 case refine_2 => (intro w9 hSw; obtain ⟨l0_0, l0_1, l0_2, l0_3, l0_4⟩ := (hSw.at (w.heap.size) [vi ki i, vi ki u, vi ki j, vi ki v, vi ki d] (by simp)).c5; clear hSw; go_simp; try with_reducible rfl)
 simp only [za, zb, zc, zd]
 refine tks 2 ⟨some 5, _, _, _, _, none⟩ rfl ?_
 simp only [za, zb, zc, zd]
 refine tk (v := ?_) 3 ⟨some 6, _, _, _, _, none⟩ rfl ?_ ?_
 case refine_2 => (intro w9 hSw; obtain ⟨l0_0, l0_1, l0_2, l0_3, l0_4⟩ := (hSw.at (w.heap.size) [vi ki i, vi ki u, vi ki j, vi ki v, vi ki d] (by simp)).c5; clear hSw; go_simp; try with_reducible rfl)
 simp only [za, zb, zc, zd]
 refine tks 5 ⟨some 8, _, _, _, _, none⟩ rfl ?_
 simp only [za, zb, zc, zd]
 refine tk (v := ?_) 6 ⟨some 9, _, _, _, _, none⟩ rfl ?_ ?_
 case refine_2 => (intro w9 hSw; obtain ⟨l0_0, l0_1, l0_2, l0_3, l0_4⟩ := (hSw.at (w.heap.size) [vi ki i, vi ki u, vi ki j, vi ki v, vi ki d] (by simp)).c5; clear hSw; go_simp; try with_reducible rfl)
 simp only [za, zb, zc, zd]
 refine rd 4 ⟨some 7, _, _, _, _, none⟩ rfl (fun K hK => ?_)
 go_simp
 refine (CP.out _ (hL.out _ hHeld.1)).mono ?_
 rintro e v1 ⟨rfl, hb1⟩
 refine hK.out _ _ (hHeld.below hb1) (fun hHeld => ?_)
 clear hK K hb1
 refine tks 7 ⟨some 10, _, _, _, _, none⟩ rfl ?_
 simp only [za, zb, zc, zd]
 refine tks 8 ⟨some 2, _, _, _, _, none⟩ rfl ?_
 simp only [za, zb, zc, zd]
 refine wpAnyH_done (by kernel_rfl) ?_ _
 have HB : Hid (Below w.heap.size w _) := hHeld.1
 clear hHeld
 go_wp2
 go_ret
 exact ⟨rfl, HB.out⟩
theorem lead_any (i u j v d n s m t e c : Int)
  (CP : Hid (∀ w : World, Cvl.Lens w → Calls Tryz.prog 62 #[.agg #[vi ki n, vi ki s], .agg #[vi ki i, vi ki u]] w fun r' w' => r' = zr (vi ki c) ∧ Below w.heap.size w w'))
  (w : World) (hL : Hid (∀ W : World, Below w.heap.size w W → Cvl.Lens W)) :
  Calls Tryz.prog 39 #[.agg #[vi ki i, vi ki u, vi ki j, vi ki v, vi ki d], .agg #[vi ki n, vi ki s, vi ki m, vi ki t, vi ki e]] w fun r' w' => r' = zr (.bool (c == d)) ∧ Below w.heap.size w w' := by
 have K0 := bsn2 w [vi ki i, vi ki u, vi ki j, vi ki v, vi ki d] 89 [vi ki n, vi ki s, vi ki m, vi ki t, vi ki e] 89
 go_enter Tryz.func39, Tryz.ntmps39
 go_upto_region 1 with fail
 refine bs_to K0 ?_
 clear K0
 intro W0 K0
 go_wp2_with fail
 refine wp_region_held_drew (S := BS w [(w.heap.size + 1, [vi ki n, vi ki s, vi ki m, vi ki t, vi ki e]), (w.heap.size, [vi ki i, vi ki u, vi ki j, vi ki v, vi ki d])]) (by kernel_rfl) K0.out.drew (fun hHeld => ?_)
 refine tks 0 ⟨some 5, _, _, _, _, none⟩ rfl ?_
 simp only [za, zb, zc, zd]
 refine tk (v := ?_) 1 ⟨some 6, _, _, _, _, none⟩ rfl ?_ ?_
 case refine_2 => (intro w9 hSw; obtain ⟨l0_0, l0_1, l0_2, l0_3, l0_4⟩ := (hSw.at (w.heap.size + 1) [vi ki n, vi ki s, vi ki m, vi ki t, vi ki e] (by simp)).c5; obtain ⟨l1_0, l1_1, l1_2, l1_3, l1_4⟩ := (hSw.at (w.heap.size) [vi ki i, vi ki u, vi ki j, vi ki v, vi ki d] (by simp)).c5; clear hSw; go_simp; try with_reducible rfl)
 simp only [za, zb, zc, zd]
 refine tks 2 ⟨some 7, _, _, _, _, none⟩ rfl ?_
 simp only [za, zb, zc, zd]
 refine tk (v := ?_) 3 ⟨some 8, _, _, _, _, none⟩ rfl ?_ ?_
 case refine_2 => (intro w9 hSw; obtain ⟨l0_0, l0_1, l0_2, l0_3, l0_4⟩ := (hSw.at (w.heap.size + 1) [vi ki n, vi ki s, vi ki m, vi ki t, vi ki e] (by simp)).c5; obtain ⟨l1_0, l1_1, l1_2, l1_3, l1_4⟩ := (hSw.at (w.heap.size) [vi ki i, vi ki u, vi ki j, vi ki v, vi ki d] (by simp)).c5; clear hSw; go_simp; try with_reducible rfl)
 simp only [za, zb, zc, zd]
 refine tks 5 ⟨some 10, _, _, _, _, none⟩ rfl ?_
 simp only [za, zb, zc, zd]
 refine tk (v := ?_) 6 ⟨some 11, _, _, _, _, none⟩ rfl ?_ ?_
 case refine_2 => (intro w9 hSw; obtain ⟨l0_0, l0_1, l0_2, l0_3, l0_4⟩ := (hSw.at (w.heap.size + 1) [vi ki n, vi ki s, vi ki m, vi ki t, vi ki e] (by simp)).c5; obtain ⟨l1_0, l1_1, l1_2, l1_3, l1_4⟩ := (hSw.at (w.heap.size) [vi ki i, vi ki u, vi ki j, vi ki v, vi ki d] (by simp)).c5; clear hSw; go_simp; try with_reducible rfl)
 simp only [za, zb, zc, zd]
 refine rd 4 ⟨some 9, _, _, _, _, none⟩ rfl (fun K hK => ?_)
 go_simp
 refine (CP.out _ (hL.out _ hHeld.1)).mono ?_
 rintro e v1 ⟨rfl, hb1⟩
 refine hK.out _ _ (hHeld.below hb1) (fun hHeld => ?_)
 clear hK K hb1
 refine tks 7 ⟨some 12, _, _, _, _, none⟩ rfl ?_
 simp only [za, zb, zc, zd]
 refine tks 8 ⟨some 4, _, _, _, _, none⟩ rfl ?_
 simp only [za, zb, zc, zd]
 refine wpAnyH_done (by kernel_rfl) ?_ _
 have HB : Hid (Below w.heap.size w _) := hHeld.1
 clear hHeld
 go_wp2
 go_ret
 exact ⟨rfl, HB.out⟩
theorem next_any (i u j m d n I V E : Int)
  (AD : Hid (∀ w : World, Cvl.Lens w → Calls Tryz.prog 53 #[.agg #[vi ki i, vi ki u], .agg #[vi ki j, vi ki m, vi ki d, vi ki n]] w fun r' w' => r' = zr (.tuple #[.agg #[vi ki I, vi ki V], vi ki E]) ∧ Below w.heap.size w w'))
  (w : World) (hL : Hid (∀ W : World, Below w.heap.size w W → Cvl.Lens W)) :
  Calls Tryz.prog 31 #[.agg #[vi ki j, vi ki m, vi ki d, vi ki n], .agg #[vi ki i, vi ki u]] w fun r' w' => r' = zr (.tuple #[.agg #[vi ki I, vi ki V], vi ki E]) ∧ Below w.heap.size w w' := by
 have K0 := bsn3 w [vi ki j, vi ki m, vi ki d, vi ki n] 84 [vi ki i, vi ki u] 36 [vi ki 0, vi ki 0] 36
 go_enter Tryz.func31, Tryz.ntmps31
 go_wp2_with fail
 refine (AD.out _ (hL.out _ K0.out.1)).mono ?_
 rintro e W1 ⟨rfl, hb⟩
 have K1 := bsb K0 hb
 clear hb K0
 obtain ⟨c1_0_0, c1_0_1⟩ := (bo1 K1).c2
 obtain ⟨z1_0_0, z1_0_1⟩ := (bo1 K1).f2
 obtain ⟨c1_1_0, c1_1_1⟩ := (bo2 K1).c2
 obtain ⟨c1_2_0, c1_2_1, c1_2_2, c1_2_3⟩ := (bo3 K1).c4
 have XF : Hid (Bx (W1.setCells (w.heap.size + 2) 0 [vi ki I, vi ki V]) (w.heap.size + 2) [vi ki I, vi ki V]) := (K1.out.at (w.heap.size + 2) [vi ki 0, vi ki 0] (by simp)).setAll _ rfl
 have BF : Hid (Below w.heap.size w (W1.setCells (w.heap.size + 2) 0 [vi ki I, vi ki V])) := below_setCells (by omega) _ _ _ K1.out.1
 have y0 := XF.out.c 0 rfl
 have y1 := XF.out.c 1 rfl
 simp only [World.setCells, Nat.zero_add] at y0 y1
 clear XF
 go_wp2
 exact bodyPost_ret (v := .tuple #[.agg #[vi ki I, vi ki V], vi ki E]) (by simp [results, Tryz.results31, go_sem, y0, y1]) rfl ⟨rfl, BF.out⟩
theorem ct_ub (a b s ua ub us wy : Int) (ha : IntKind.u64.wrap a = ua) (hb : IntKind.u64.wrap b = ub) (hs : IntKind.u64.wrap s = us) (hw : IntKind.u64.wrap (ub - ua) = wy) (h : ¬ s < 0) (g : b < a)
  (w : World) :
  Calls Tryz.prog 64 #[.agg #[vi ki a, vi ki b, vi ki s]] w fun r' w' => r' = zr (.int .u64 0) ∧ Below w.heap.size w w' := by
 have K0 := bsn1 w [vi ki a, vi ki b, vi ki s] 124
 go_enter Tryz.func64, Tryz.ntmps64
 go_upto_region 1 with fail
 refine bs_to K0 ?_
 clear K0
 intro W0 K0
 go_cut [3, 4] (fun v0 v1 wx => v0 = .int .u64 wy ∧ v1 = .int .u64 us ∧ Hid (BS w [(w.heap.size, [vi ki a, vi ki b, vi ki s])] wx))
 case first =>
  refine wp_region_held_drew (S := BS w [(w.heap.size, [vi ki a, vi ki b, vi ki s])]) (by kernel_rfl) K0.out.drew (fun hHeld => ?_)
  refine tks 0 ⟨some 6, _, _, _, _, none⟩ rfl ?_
  simp only [za, zb, zc, zd]
  refine tk (v := ?_) 1 ⟨some 7, _, _, _, _, none⟩ rfl ?_ ?_
  case refine_2 => (intro w9 hSw; obtain ⟨l0_0, l0_1, l0_2⟩ := (hSw.at (w.heap.size) [vi ki a, vi ki b, vi ki s] (by simp)).c3; clear hSw; go_simp; try with_reducible rfl)
  simp only [za, zb, zc, zd]
  refine tks 2 ⟨some 8, _, _, _, _, none⟩ rfl ?_
  simp only [za, zb, zc, zd]
  refine tks 3 ⟨some 9, _, _, _, _, none⟩ rfl ?_
  simp only [za, zb, zc, zd]
  refine tk (v := ?_) 4 ⟨some 10, _, _, _, _, none⟩ rfl ?_ ?_
  case refine_2 => (intro w9 hSw; obtain ⟨l0_0, l0_1, l0_2⟩ := (hSw.at (w.heap.size) [vi ki a, vi ki b, vi ki s] (by simp)).c3; clear hSw; go_simp; try with_reducible rfl)
  simp only [za, zb, zc, zd]
  refine tks 5 ⟨some 11, _, _, _, _, none⟩ rfl ?_
  simp only [za, zb, zc, zd]
  refine tks 6 ⟨some 12, _, _, _, _, none⟩ rfl ?_
  simp only [za, zb, zc, zd]
  refine tks 7 ⟨some 13, _, _, _, _, none⟩ rfl ?_
  simp only [za, zb, zc, zd]
  refine tk (v := ?_) 8 ⟨some 14, _, _, _, _, none⟩ rfl ?_ ?_
  case refine_2 => (intro w9 hSw; obtain ⟨l0_0, l0_1, l0_2⟩ := (hSw.at (w.heap.size) [vi ki a, vi ki b, vi ki s] (by simp)).c3; clear hSw; go_simp; try with_reducible rfl)
  simp only [za, zb, zc, zd]
  refine tks 9 ⟨some 15, _, _, _, _, none⟩ rfl ?_
  simp only [za, zb, zc, zd]
  refine tks 10 ⟨some 3, _, _, _, _, none⟩ rfl ?_
  simp only [za, zb, zc, zd]
  refine tks 11 ⟨some 4, _, _, _, _, none⟩ rfl ?_
  simp only [za, zb, zc, zd]
  refine wpAnyH_done (by kernel_rfl) ?_ _
  go_wp2_with fail
  go_meet
  case rel => exact ⟨rfl, rfl, hHeld⟩
 case rest =>
  obtain ⟨rfl, rfl, K1⟩ := hcut
  clear K0
  skip
  obtain ⟨c1_0_0, c1_0_1, c1_0_2⟩ := (bo1 K1).c3
  go_wp2
  go_ret
  exact ⟨rfl, K1.out.1⟩
theorem ct_u (a b s ua ub us wy : Int) (ha : IntKind.u64.wrap a = ua) (hb : IntKind.u64.wrap b = ub) (hs : IntKind.u64.wrap s = us) (hw : IntKind.u64.wrap (ub - ua) = wy) (q r : Int) (h : ¬ s < 0) (g : ¬ b < a) (z : ¬ us = 0) (hq : IntKind.u64.wrap (wy.tdiv us) = q) (hr : IntKind.u64.wrap (q + 1) = r)
  (w : World) :
  Calls Tryz.prog 64 #[.agg #[vi ki a, vi ki b, vi ki s]] w fun r' w' => r' = zr (.int .u64 r) ∧ Below w.heap.size w w' := by
 have K0 := bsn1 w [vi ki a, vi ki b, vi ki s] 124
 go_enter Tryz.func64, Tryz.ntmps64
 go_upto_region 1 with fail
 refine bs_to K0 ?_
 clear K0
 intro W0 K0
 go_cut [3, 4] (fun v0 v1 wx => v0 = .int .u64 wy ∧ v1 = .int .u64 us ∧ Hid (BS w [(w.heap.size, [vi ki a, vi ki b, vi ki s])] wx))
 case first =>
  refine wp_region_held_drew (S := BS w [(w.heap.size, [vi ki a, vi ki b, vi ki s])]) (by kernel_rfl) K0.out.drew (fun hHeld => ?_)
  refine tks 0 ⟨some 6, _, _, _, _, none⟩ rfl ?_
  simp only [za, zb, zc, zd]
  refine tk (v := ?_) 1 ⟨some 7, _, _, _, _, none⟩ rfl ?_ ?_
  case refine_2 => (intro w9 hSw; obtain ⟨l0_0, l0_1, l0_2⟩ := (hSw.at (w.heap.size) [vi ki a, vi ki b, vi ki s] (by simp)).c3; clear hSw; go_simp; try with_reducible rfl)
  simp only [za, zb, zc, zd]
  refine tks 2 ⟨some 8, _, _, _, _, none⟩ rfl ?_
  simp only [za, zb, zc, zd]
  refine tks 3 ⟨some 9, _, _, _, _, none⟩ rfl ?_
  simp only [za, zb, zc, zd]
  refine tk (v := ?_) 4 ⟨some 10, _, _, _, _, none⟩ rfl ?_ ?_
  case refine_2 => (intro w9 hSw; obtain ⟨l0_0, l0_1, l0_2⟩ := (hSw.at (w.heap.size) [vi ki a, vi ki b, vi ki s] (by simp)).c3; clear hSw; go_simp; try with_reducible rfl)
  simp only [za, zb, zc, zd]
  refine tks 5 ⟨some 11, _, _, _, _, none⟩ rfl ?_
  simp only [za, zb, zc, zd]
  refine tks 6 ⟨some 12, _, _, _, _, none⟩ rfl ?_
  simp only [za, zb, zc, zd]
  refine tks 7 ⟨some 13, _, _, _, _, none⟩ rfl ?_
  simp only [za, zb, zc, zd]
  refine tk (v := ?_) 8 ⟨some 14, _, _, _, _, none⟩ rfl ?_ ?_
  case refine_2 => (intro w9 hSw; obtain ⟨l0_0, l0_1, l0_2⟩ := (hSw.at (w.heap.size) [vi ki a, vi ki b, vi ki s] (by simp)).c3; clear hSw; go_simp; try with_reducible rfl)
  simp only [za, zb, zc, zd]
  refine tks 9 ⟨some 15, _, _, _, _, none⟩ rfl ?_
  simp only [za, zb, zc, zd]
  refine tks 10 ⟨some 3, _, _, _, _, none⟩ rfl ?_
  simp only [za, zb, zc, zd]
  refine tks 11 ⟨some 4, _, _, _, _, none⟩ rfl ?_
  simp only [za, zb, zc, zd]
  refine wpAnyH_done (by kernel_rfl) ?_ _
  go_wp2_with fail
  go_meet
  case rel => exact ⟨rfl, rfl, hHeld⟩
 case rest =>
  obtain ⟨rfl, rfl, K1⟩ := hcut
  clear K0
  skip
  obtain ⟨c1_0_0, c1_0_1, c1_0_2⟩ := (bo1 K1).c3
  go_wp2
  go_ret
  exact ⟨rfl, K1.out.1⟩
theorem ct_db (a b s ua ub us wy : Int) (ha : IntKind.u64.wrap a = ua) (hb : IntKind.u64.wrap b = ub) (hs : IntKind.u64.wrap s = us) (hw : IntKind.u64.wrap (ub - ua) = wy) (nw ns : Int) (h : s < 0) (g : a < b) (hnw : IntKind.u64.wrap (-wy) = nw) (hns : IntKind.u64.wrap (-us) = ns)
  (w : World) :
  Calls Tryz.prog 64 #[.agg #[vi ki a, vi ki b, vi ki s]] w fun r' w' => r' = zr (.int .u64 0) ∧ Below w.heap.size w w' := by
 have K0 := bsn1 w [vi ki a, vi ki b, vi ki s] 124
 go_enter Tryz.func64, Tryz.ntmps64
 go_upto_region 1 with fail
 refine bs_to K0 ?_
 clear K0
 intro W0 K0
 go_cut [3, 4] (fun v0 v1 wx => v0 = .int .u64 wy ∧ v1 = .int .u64 us ∧ Hid (BS w [(w.heap.size, [vi ki a, vi ki b, vi ki s])] wx))
 case first =>
  refine wp_region_held_drew (S := BS w [(w.heap.size, [vi ki a, vi ki b, vi ki s])]) (by kernel_rfl) K0.out.drew (fun hHeld => ?_)
  refine tks 0 ⟨some 6, _, _, _, _, none⟩ rfl ?_
  simp only [za, zb, zc, zd]
  refine tk (v := ?_) 1 ⟨some 7, _, _, _, _, none⟩ rfl ?_ ?_
  case refine_2 => (intro w9 hSw; obtain ⟨l0_0, l0_1, l0_2⟩ := (hSw.at (w.heap.size) [vi ki a, vi ki b, vi ki s] (by simp)).c3; clear hSw; go_simp; try with_reducible rfl)
  simp only [za, zb, zc, zd]
  refine tks 2 ⟨some 8, _, _, _, _, none⟩ rfl ?_
  simp only [za, zb, zc, zd]
  refine tks 3 ⟨some 9, _, _, _, _, none⟩ rfl ?_
  simp only [za, zb, zc, zd]
  refine tk (v := ?_) 4 ⟨some 10, _, _, _, _, none⟩ rfl ?_ ?_
  case refine_2 => (intro w9 hSw; obtain ⟨l0_0, l0_1, l0_2⟩ := (hSw.at (w.heap.size) [vi ki a, vi ki b, vi ki s] (by simp)).c3; clear hSw; go_simp; try with_reducible rfl)
  simp only [za, zb, zc, zd]
  refine tks 5 ⟨some 11, _, _, _, _, none⟩ rfl ?_
  simp only [za, zb, zc, zd]
  refine tks 6 ⟨some 12, _, _, _, _, none⟩ rfl ?_
  simp only [za, zb, zc, zd]
  refine tks 7 ⟨some 13, _, _, _, _, none⟩ rfl ?_
  simp only [za, zb, zc, zd]
  refine tk (v := ?_) 8 ⟨some 14, _, _, _, _, none⟩ rfl ?_ ?_
  case refine_2 => (intro w9 hSw; obtain ⟨l0_0, l0_1, l0_2⟩ := (hSw.at (w.heap.size) [vi ki a, vi ki b, vi ki s] (by simp)).c3; clear hSw; go_simp; try with_reducible rfl)
  simp only [za, zb, zc, zd]
  refine tks 9 ⟨some 15, _, _, _, _, none⟩ rfl ?_
  simp only [za, zb, zc, zd]
  refine tks 10 ⟨some 3, _, _, _, _, none⟩ rfl ?_
  simp only [za, zb, zc, zd]
  refine tks 11 ⟨some 4, _, _, _, _, none⟩ rfl ?_
  simp only [za, zb, zc, zd]
  refine wpAnyH_done (by kernel_rfl) ?_ _
  go_wp2_with fail
  go_meet
  case rel => exact ⟨rfl, rfl, hHeld⟩
 case rest =>
  obtain ⟨rfl, rfl, K1⟩ := hcut
  clear K0
  skip
  obtain ⟨c1_0_0, c1_0_1, c1_0_2⟩ := (bo1 K1).c3
  go_wp2
  go_ret
  exact ⟨rfl, K1.out.1⟩
theorem ct_d (a b s ua ub us wy : Int) (ha : IntKind.u64.wrap a = ua) (hb : IntKind.u64.wrap b = ub) (hs : IntKind.u64.wrap s = us) (hw : IntKind.u64.wrap (ub - ua) = wy) (nw ns q r : Int) (h : s < 0) (g : ¬ a < b) (hnw : IntKind.u64.wrap (-wy) = nw) (hns : IntKind.u64.wrap (-us) = ns) (z : ¬ ns = 0) (hq : IntKind.u64.wrap (nw.tdiv ns) = q) (hr : IntKind.u64.wrap (q + 1) = r)
  (w : World) :
  Calls Tryz.prog 64 #[.agg #[vi ki a, vi ki b, vi ki s]] w fun r' w' => r' = zr (.int .u64 r) ∧ Below w.heap.size w w' := by
 have K0 := bsn1 w [vi ki a, vi ki b, vi ki s] 124
 go_enter Tryz.func64, Tryz.ntmps64
 go_upto_region 1 with fail
 refine bs_to K0 ?_
 clear K0
 intro W0 K0
 go_cut [3, 4] (fun v0 v1 wx => v0 = .int .u64 wy ∧ v1 = .int .u64 us ∧ Hid (BS w [(w.heap.size, [vi ki a, vi ki b, vi ki s])] wx))
 case first =>
  refine wp_region_held_drew (S := BS w [(w.heap.size, [vi ki a, vi ki b, vi ki s])]) (by kernel_rfl) K0.out.drew (fun hHeld => ?_)
  refine tks 0 ⟨some 6, _, _, _, _, none⟩ rfl ?_
  simp only [za, zb, zc, zd]
  refine tk (v := ?_) 1 ⟨some 7, _, _, _, _, none⟩ rfl ?_ ?_
  case refine_2 => (intro w9 hSw; obtain ⟨l0_0, l0_1, l0_2⟩ := (hSw.at (w.heap.size) [vi ki a, vi ki b, vi ki s] (by simp)).c3; clear hSw; go_simp; try with_reducible rfl)
  simp only [za, zb, zc, zd]
  refine tks 2 ⟨some 8, _, _, _, _, none⟩ rfl ?_
  simp only [za, zb, zc, zd]
  refine tks 3 ⟨some 9, _, _, _, _, none⟩ rfl ?_
  simp only [za, zb, zc, zd]
  refine tk (v := ?_) 4 ⟨some 10, _, _, _, _, none⟩ rfl ?_ ?_
  case refine_2 => (intro w9 hSw; obtain ⟨l0_0, l0_1, l0_2⟩ := (hSw.at (w.heap.size) [vi ki a, vi ki b, vi ki s] (by simp)).c3; clear hSw; go_simp; try with_reducible rfl)
  simp only [za, zb, zc, zd]
  refine tks 5 ⟨some 11, _, _, _, _, none⟩ rfl ?_
  simp only [za, zb, zc, zd]
  refine tks 6 ⟨some 12, _, _, _, _, none⟩ rfl ?_
  simp only [za, zb, zc, zd]
  refine tks 7 ⟨some 13, _, _, _, _, none⟩ rfl ?_
  simp only [za, zb, zc, zd]
  refine tk (v := ?_) 8 ⟨some 14, _, _, _, _, none⟩ rfl ?_ ?_
  case refine_2 => (intro w9 hSw; obtain ⟨l0_0, l0_1, l0_2⟩ := (hSw.at (w.heap.size) [vi ki a, vi ki b, vi ki s] (by simp)).c3; clear hSw; go_simp; try with_reducible rfl)
  simp only [za, zb, zc, zd]
  refine tks 9 ⟨some 15, _, _, _, _, none⟩ rfl ?_
  simp only [za, zb, zc, zd]
  refine tks 10 ⟨some 3, _, _, _, _, none⟩ rfl ?_
  simp only [za, zb, zc, zd]
  refine tks 11 ⟨some 4, _, _, _, _, none⟩ rfl ?_
  simp only [za, zb, zc, zd]
  refine wpAnyH_done (by kernel_rfl) ?_ _
  go_wp2_with fail
  go_meet
  case rel => exact ⟨rfl, rfl, hHeld⟩
 case rest =>
  obtain ⟨rfl, rfl, K1⟩ := hcut
  clear K0
  skip
  obtain ⟨c1_0_0, c1_0_1, c1_0_2⟩ := (bo1 K1).c3
  go_wp2
  go_ret
  exact ⟨rfl, K1.out.1⟩
theorem cntI_up {a b s : Int} (h : 0 < s) (g : ¬ b < a) : cntI a b s = (b - a) / s + 1 := by unfold cntI; rw [if_pos h, if_neg g]
theorem cntI_dn {a b s : Int} (h : s < 0) (g : ¬ a < b) : cntI a b s = (a - b) / (-s) + 1 := by unfold cntI; rw [if_neg (by omega), if_neg g]
theorem cntI_bd {a b s : Int} (h0 : s ≠ 0) (a1 : -9223372036854775808 ≤ a) (a2 : a ≤ 9223372036854775807) (b1 : -9223372036854775808 ≤ b) (b2 : b ≤ 9223372036854775807) : 0 ≤ cntI a b s ∧ cntI a b s ≤ 18446744073709551616 := by
 unfold cntI
 by_cases h : 0 < s
 ·rw [if_pos h]
  by_cases g : b < a
  ·rw [if_pos g]; omega
  ·rw [if_neg g]
   have e1 : 0 ≤ (b - a) / s := Int.ediv_nonneg (by omega) (by omega)
   have e2 : (b - a) / s ≤ b - a := Int.ediv_le_self _ (by omega)
   omega
 ·rw [if_neg h]
  by_cases g : a < b
  ·rw [if_pos g]; omega
  ·rw [if_neg g]
   have e1 : 0 ≤ (a - b) / (-s) := Int.ediv_nonneg (by omega) (by omega)
   have e2 : (a - b) / (-s) ≤ a - b := Int.ediv_le_self _ (by omega)
   omega
theorem half_le {x y : Int} (hx : 0 ≤ x) (hy : 2 ≤ y) : x / y ≤ x / 2 := by
 have h1 : x / y * y ≤ x := Int.ediv_mul_le x (by omega)
 have h2 : 0 ≤ x / y := Int.ediv_nonneg hx (by omega)
 have h3 : x / y * 2 ≤ x / y * y := Int.mul_le_mul_of_nonneg_left hy h2
 omega
theorem cntI_lt {a b s : Int} (h0 : s ≠ 0) (ha : allB a b s = false) (a1 : -9223372036854775808 ≤ a) (a2 : a ≤ 9223372036854775807) (b1 : -9223372036854775808 ≤ b) (b2 : b ≤ 9223372036854775807) : cntI a b s < 18446744073709551616 := by
 unfold allB allU allD at ha
 simp only [Bool.or_eq_false_iff, Bool.and_eq_false_iff, decide_eq_false_iff_not] at ha
 unfold cntI
 by_cases h : 0 < s
 ·rw [if_pos h]
  by_cases g : b < a
  ·rw [if_pos g]; omega
  ·rw [if_neg g]
   by_cases e : s = 1
   ·subst e; rw [Int.ediv_one]; omega
   ·have := half_le (x := b - a) (y := s) (by omega) (by omega)
    omega
 ·rw [if_neg h]
  by_cases g : a < b
  ·rw [if_pos g]; omega
  ·rw [if_neg g]
   by_cases e : s = -1
   ·subst e; rw [show (-(-1) : Int) = 1 by rfl, Int.ediv_one]; omega
   ·have := half_le (x := a - b) (y := -s) (by omega) (by omega)
    omega
theorem count_any (a b s : Int) (h0 : s ≠ 0) (ha : allB a b s = false) (a1 : -9223372036854775808 ≤ a) (a2 : a ≤ 9223372036854775807) (b1 : -9223372036854775808 ≤ b) (b2 : b ≤ 9223372036854775807) (s1 : -9223372036854775808 ≤ s) (s2 : s ≤ 9223372036854775807) (w : World) :
  Calls Tryz.prog 64 #[.agg #[vi ki a, vi ki b, vi ki s]] w fun r w' => r = zr (.int .u64 (cntI a b s)) ∧ Below w.heap.size w w' := by
 have lt := cntI_lt h0 ha a1 a2 b1 b2
 have bd := cntI_bd (a := a) (b := b) h0 a1 a2 b1 b2
 by_cases h : s < 0
 ·by_cases g : a < b
  ·rw [show cntI a b s = 0 by unfold cntI; rw [if_neg (by omega), if_pos g]]
   exact ct_db a b s _ _ _ _ rfl rfl rfl rfl _ _ h g rfl rfl w
  ·have e := cntI_dn h g
   have hw : IntKind.u64.wrap (-(IntKind.u64.wrap (IntKind.u64.wrap b - IntKind.u64.wrap a))) = a - b := by simp only [IntKind.wrap_u64]; omega
   have hs : IntKind.u64.wrap (-(IntKind.u64.wrap s)) = -s := by simp only [IntKind.wrap_u64]; omega
   have q0 : 0 ≤ (a - b) / (-s) := Int.ediv_nonneg (by omega) (by omega)
   refine ct_d a b s _ _ _ _ rfl rfl rfl rfl (a - b) (-s) ((a - b) / (-s)) (cntI a b s) h g hw hs (by omega) ?_ ?_ w
   ·rw [Int.tdiv_eq_ediv_of_nonneg (by omega), IntKind.wrap_u64]; omega
   ·rw [← e, IntKind.wrap_u64]; omega
 ·by_cases g : b < a
  ·rw [show cntI a b s = 0 by unfold cntI; rw [if_pos (by omega), if_pos g]]
   exact ct_ub a b s _ _ _ _ rfl rfl rfl rfl h g w
  ·have e := cntI_up (show 0 < s by omega) g
   have hw : IntKind.u64.wrap (IntKind.u64.wrap b - IntKind.u64.wrap a) = b - a := by simp only [IntKind.wrap_u64]; omega
   have hs : IntKind.u64.wrap s = s := by simp only [IntKind.wrap_u64]; omega
   have q0 : 0 ≤ (b - a) / s := Int.ediv_nonneg (by omega) (by omega)
   refine ct_u a b s _ _ s (b - a) rfl rfl hs hw ((b - a) / s) (cntI a b s) h g h0 ?_ ?_ w
   ·rw [Int.tdiv_eq_ediv_of_nonneg (by omega), IntKind.wrap_u64]; omega
   ·rw [← e, IntKind.wrap_u64]; omega
def ctV (a b s : Int) : Int := if s = 0 then 0 else if allB a b s = true then 0 else cntI a b s
def ctE (a b s : Int) : Int := if s = 0 then 11 else if allB a b s = true then 10 else 0
theorem Count_any (a b s : Int) (a1 : -9223372036854775808 ≤ a) (a2 : a ≤ 9223372036854775807) (b1 : -9223372036854775808 ≤ b) (b2 : b ≤ 9223372036854775807) (s1 : -9223372036854775808 ≤ s) (s2 : s ≤ 9223372036854775807) (w : World) :
  Calls Tryz.prog 40 #[vi ki a, vi ki b, vi ki s] w fun r w' => r = zr (.tuple #[.int .u64 (ctV a b s), vi ki (ctE a b s)]) ∧ Below w.heap.size w w' := by
 unfold ctV ctE
 by_cases h0 : s = 0
 ·rw [if_pos h0, if_pos h0]
  have z : (s == 0) = true := by simpa using h0
  go_enter Tryz.func40, Tryz.ntmps40
  go_wp2_with fail
  go_ret2
  exact ⟨rfl, Below.refl _ _⟩
 ·rw [if_neg h0, if_neg h0]
  have z : (s == 0) = false := by simpa using h0
  have AL : Hid (∀ w : World, Calls Tryz.prog 63 #[.agg #[vi ki a, vi ki b, vi ki s]] w fun r w' => r = zr (.bool (allB a b s)) ∧ Below w.heap.size w w') := fun w => all_any a b s w
  by_cases h : allB a b s = true
  ·rw [if_pos h, if_pos h]
   rw [h] at AL
   clear h
   go_enter Tryz.func40, Tryz.ntmps40
   go_wp2_with fail
   refine (AL.out _).mono ?_
   rintro e W ⟨rfl, hb⟩
   have HB : Hid (Below w.heap.size w W) := ((Below.refl _ w).alloc (Nat.le_refl _) _).trans (hb.mono (by simp))
   clear hb
   go_wp2_with fail
   go_ret2
   exact ⟨rfl, HB.out⟩
  ·rw [if_neg h, if_neg h]
   have h' : allB a b s = false := by simpa using h
   have CT : Hid (∀ w : World, Calls Tryz.prog 64 #[.agg #[vi ki a, vi ki b, vi ki s]] w fun r w' => r = zr (.int .u64 (cntI a b s)) ∧ Below w.heap.size w w') := fun w => count_any a b s h0 h' a1 a2 b1 b2 s1 s2 w
   rw [h'] at AL
   generalize cntI a b s = C at *
   clear h h'
   have K0 := bsn (BS.start w) [vi ki a, vi ki b, vi ki s] 124
   go_enter Tryz.func40, Tryz.ntmps40
   go_wp2_with fail
   refine (AL.out _).mono ?_
   rintro e W ⟨rfl, hb⟩
   have K1 := bsb K0 hb
   obtain ⟨c0, c1, c2⟩ := (bo1 K1).c3
   clear hb K0
   go_wp2_with fail
   refine (CT.out _).mono ?_
   rintro e W2 ⟨rfl, hb⟩
   have K2 := bsb K1 hb
   clear hb K1 c0 c1 c2
   go_wp2_with fail
   go_ret2
   exact ⟨rfl, K2.out.1⟩
def cI (L : List Int) : List Value := L.map fun x => vi ki x
theorem cI_len (L : List Int) : (cI L).length = L.length := by simp [cI]
theorem cI_get {L : List Int} {j : Nat} {x : Int} (h : L[j]? = some x) : (cI L)[j]? = some (vi ki x) := by simp [cI, h]
def arI (a s : Int) (n : Nat) : List Int := (List.range n).map fun k : Nat => a + (k : Int) * s
def fiI (a s : Int) (i n : Nat) : List Int := (List.range n).map fun k => if k < i then a + (k : Int) * s else 0
theorem fiI_len (a s : Int) (i n : Nat) : (fiI a s i n).length = n := by simp [fiI]
theorem fiI_zero (a s : Int) (n : Nat) : fiI a s 0 n = List.replicate n 0 := by
 apply List.ext_getElem
 ·simp [fiI]
 ·intro i h1 h2; simp [fiI]
theorem fiI_all (a s : Int) (n : Nat) : fiI a s n n = arI a s n := by
 apply List.ext_getElem
 ·simp [fiI, arI]
 ·intro i h1 h2; simp only [fiI, arI, List.getElem_map, List.getElem_range]; rw [if_pos (by simpa [arI] using h2)]
theorem fiI_set (a s : Int) (i n : Nat) (h : i < n) : (cI (fiI a s i n)).set i (vi ki (a + (i : Int) * s)) = cI (fiI a s (i + 1) n) := by
 apply List.ext_getElem
 ·simp [cI, fiI]
 ·intro j h1 h2
  rw [List.getElem_set]
  simp only [cI, fiI, List.getElem_map, List.getElem_range]
  by_cases e : i = j
  ·subst e; rw [if_pos rfl, if_pos (by omega)]
  ·rw [if_neg e]
   by_cases g : j < i
   ·rw [if_pos g, if_pos (by omega)]
   ·rw [if_neg g, if_neg (by omega)]
theorem infoI64 : (Tryz.prog.info? 2).map (fun i => (i.zero, i.size, i.bytes)) = some (some (vi ki 0), 1, 8) := by kernel_rfl
theorem made_i (n : Nat) : madeCells #[vi ki 0] n = (cI (List.replicate n 0)).toArray := by
 apply Array.ext
 ·simp [madeCells, cI]
 ·intro i h1 h2
  simp [madeCells, cI, Nat.mod_one]
theorem make_i (n : Nat) (hn : n ≤ 1000) (w : World) : (Instr.makeSlice 71 (.int .u64 (n : Int)) (.int .u64 (n : Int))).run Tryz.prog w = .ok (.slice (some ⟨w.heap.size, 0, none⟩) n n) (w.alloc (.cells (cI (List.replicate n 0)).toArray 2)) := by
 obtain ⟨i0, hi, hz0, hz1, hz2⟩ := info_parts infoI64
 have h := run_make (P := Tryz.prog) w 71 2 i0 (vi ki 0) Tryz.underlying71 hi hz0 .u64 .u64 (n : Int) (n : Int) (by omega) (by omega) (by rw [hz2]; omega) (by omega)
 rw [hz1] at h
 simp only [Int.toNat_natCast, Nat.mul_one] at h
 rw [h, show (Value.int .i64 0).cells = #[vi ki 0] from rfl, made_i]
theorem ints_ok (a b s m : Int) (n : Nat) (h : mostB m = true) (hn : n ≤ 1000) (hC : ¬ m < (n : Int)) (hm : IntKind.u64.wrap m = m) (HR : Hid (∀ i : Nat, i < n → IntKind.i64.wrap (a + (i : Int) * s) = a + (i : Int) * s)) (ha : IntKind.i64.wrap a = a) (CT : Hid (∀ w : World, Calls Tryz.prog 40 #[vi ki a, vi ki b, vi ki s] w fun r w' => r = zr (.tuple #[.int .u64 (n : Int), vi ki 0]) ∧ Below w.heap.size w w')) (w : World) : Calls Tryz.prog 21 #[vi ki a, vi ki b, vi ki s, vi ki m] w fun r w' => ∃ g, r = zr (.tuple #[.slice (some ⟨g, 0, none⟩) n n, vi ki 0]) ∧ Below w.heap.size w w' ∧ w.heap.size ≤ g ∧ Bx w' g (cI (arI a s n)) := by
 have MO : Hid (∀ w : World, Calls Tryz.prog 15 #[vi ki m] w fun r w' => r = zr (.bool true) ∧ w' = w) := fun w => by rw [← h]; exact most_any m w
 clear h
 go_enter Tryz.func21, Tryz.ntmps21
 go_wp2_with fail
 refine (MO.out _).mono ?_
 rintro e W ⟨rfl, hw⟩
 rw [hw]
 clear hw W
 go_wp2_with fail
 refine (CT.out _).mono ?_
 rintro e W1 ⟨rfl, hb⟩
 have HB1 : Hid (Below w.heap.size w W1) := hb
 have hmk := make_i n hn W1
 clear hb
 go_wp2_with fail
 go_loopw [0, 39] (fun av iv W => ∃ i : Nat, i ≤ n ∧ av = vi ki (IntKind.i64.wrap (a + (i : Int) * s)) ∧ iv = vi ki (i : Int) ∧ Hid (Bx W W1.heap.size (cI (fiI a s i n))) ∧ Hid (Below w.heap.size w W)) (fun _ iv _ => n - (intOf iv).toNat)
 case atStart => exact ⟨0, Nat.zero_le _, by simp [ha], rfl, by rw [fiI_zero]; exact Bx.new W1 _ _, (HB1.out.alloc HB1.out.size _)⟩
 case round =>
  obtain ⟨i, hi, rfl, rfl, HX, HB⟩ := hrel
  by_cases hlt : i < n
  ·have hlen : (cI (fiI a s i n)).length = n := by rw [cI_len, fiI_len]
   obtain ⟨q, hq⟩ : ∃ q, (cI (fiI a s i n))[i]? = some q := ⟨_, List.getElem?_eq_getElem (by omega)⟩
   have hcell := HX.out.c _ hq
   have hfz := HX.out.f _ hq
   have hr := HR.out i hlt
   obtain ⟨x, hx⟩ : ∃ x, a + (i : Int) * s = x := ⟨_, rfl⟩
   rw [hx] at hr ⊢
   rw [hr]
   have HX' : Hid (Bx (wr.setCell ⟨W1.heap.size, i, none⟩ (vi ki x)) W1.heap.size (cI (fiI a s (i + 1) n))) := by
    have := HX.out.set1 i (vi ki x) (by omega)
    rw [← hx, fiI_set a s i n hlt] at this; rw [← hx]; exact this
   have HB' : Hid (Below w.heap.size w (wr.setCell ⟨W1.heap.size, i, none⟩ (vi ki x))) := HB.out.setCell (p := ⟨W1.heap.size, i, none⟩) HB1.out.size _
   have HN : Hid (IntKind.i64.wrap (x + s) = IntKind.i64.wrap (a + ((i + 1 : Nat) : Int) * s)) := by
    show _ = _
    rw [← hx]; congr 1; rw [Int.natCast_add, Int.add_mul]; simp only [Int.natCast_one, Int.one_mul]; omega
   clear hx hr
   go_wp2_with fail
   exact ⟨⟨i + 1, by omega, by rw [← HN.out]; congr 1; unfold wrap64; exact (IntKind.wrap_i64 _).symm, by simp, HX', HB'⟩, by simp [intOf]; omega⟩
  ·have e : i = n := by omega
   have HX2 : Hid (Bx wr W1.heap.size (cI (arI a s n))) := by have := HX.out; rw [e, fiI_all] at this; exact this
   clear HX e hmk
   go_wp2_with fail
   exact bodyPost_ret (v := .tuple #[.slice (some ⟨W1.heap.size, 0, none⟩) n n, vi ki 0]) (by simp [results, Tryz.results21, go_sem]) rfl ⟨_, rfl, HB.out, HB1.out.size, HX2.out⟩
def IRow (W : World) (v : Value) (L : List Int) : Prop := ∃ ao c, v = .slice ao L.length c ∧ ∀ j x, L[j]? = some x → ∃ a, ao = some a ∧ W.cell? (a.add j) = some (vi ki x)
theorem IRow.below {W V : World} {v : Value} {L : List Int} (h : IRow W v L) (hb : Below W.heap.size W V) : IRow V v L := by
 obtain ⟨ao, c, e, h⟩ := h
 refine ⟨ao, c, e, fun j x hj => ?_⟩
 obtain ⟨a, ea, hc⟩ := h j x hj
 exact ⟨a, ea, (hb.cell (World.block_lt_of_cell? W _ hc)).trans hc⟩
theorem IRow.drew {W : World} {v : Value} {L : List Int} (h : IRow W v L) : IRow W.drew v L := h
theorem IRow.of_bx {W : World} {g n : Nat} {L : List Int} (h : Bx W g (cI L)) (hn : L.length = n) : IRow W (.slice (some ⟨g, 0, none⟩) n n) L :=
 ⟨_, _, by rw [hn], fun j x hj => ⟨_, rfl, by have := h.c j (cI_get hj); cases j <;> simpa [Addr.add] using this⟩⟩
theorem IRow.nil (W : World) : IRow W (.slice none 0 0) [] := ⟨_, _, rfl, fun j x h => by simp at h⟩
theorem IRow.of_own {W : World} {base c : Nat} {ao : Option Addr} {n : Nat} {L : List Int} (h : W.ownsRow base 2 1 (.slice ao n c) n (cI L)) (hn : L.length = n) : IRow W (.slice ao n c) L := by
 refine ⟨ao, c, by rw [hn], fun j x hj => ?_⟩
 rcases h.2 with ⟨e, z⟩ | ⟨g, cap, cur, e, h3, h4, h5, h6⟩
 ·rw [z] at hn; have := (List.getElem?_eq_some_iff.1 hj).1; omega
 ·obtain ⟨rfl, _, rfl⟩ : ao = some ⟨g, 0, none⟩ ∧ n = n ∧ c = cap := by simpa using e
  exact ⟨_, rfl, h.cells rfl j _ (cI_get hj)⟩
theorem same_yes (v u : Value) (L : List Int) (hl : L.length ≤ 1000) (w : World) (H1 : Hid (IRow w v L)) (H2 : Hid (IRow w u L)) : Calls Tryz.prog 23 #[v, u] w fun r w' => r = zr (.bool true) ∧ Below w.heap.size w w' := by
 obtain ⟨ao, c, rfl, h1⟩ := H1.out
 obtain ⟨bo, d, rfl, h2⟩ := H2.out
 have HA : Hid (∀ j x, L[j]? = some x → ∃ a, ao = some a ∧ w.cell? (a.add j) = some (vi ki x)) := h1
 have HC : Hid (∀ j x, L[j]? = some x → ∃ a, bo = some a ∧ w.cell? (a.add j) = some (vi ki x)) := h2
 clear h1 h2 H1 H2
 obtain ⟨n, hn⟩ : ∃ n, L.length = n := ⟨_, rfl⟩
 rw [hn] at hl ⊢
 have HN : Hid (L.length = n) := hn
 clear hn
 go_enter Tryz.func23, Tryz.ntmps23
 go_wp2_with fail
 go_loopw [5] (fun iv W => ∃ i : Nat, i ≤ n ∧ iv = vi ki (i : Int) ∧ Hid (Below w.heap.size w W)) (fun iv _ => n - (intOf iv).toNat)
 case atStart => exact ⟨0, Nat.zero_le _, rfl, Below.refl _ _⟩
 case round =>
  obtain ⟨i, hi, rfl, HB⟩ := hrel
  by_cases hlt : i < n
  ·obtain ⟨x, hx⟩ : ∃ x, L[i]? = some x := ⟨L[i]'(by rw [HN.out]; exact hlt), List.getElem?_eq_getElem (by rw [HN.out]; exact hlt)⟩
   obtain ⟨a, rfl, ha⟩ := HA.out i x hx
   obtain ⟨b, rfl, hb⟩ := HC.out i x hx
   have HH : Hid ((fun W : World => W.cell? (a.add i) = some (vi ki x) ∧ W.cell? (b.add i) = some (vi ki x)) wr) := ⟨(HB.out.cell (World.block_lt_of_cell? w _ ha)).trans ha, (HB.out.cell (World.block_lt_of_cell? w _ hb)).trans hb⟩
   clear ha hb hx HA HC
   go_wp2_with fail
   refine wp_region_held_drew (S := fun W : World => (W.cell? (a.add i) = some (vi ki x) ∧ W.cell? (b.add i) = some (vi ki x)) ∧ Below w.heap.size w W) (by kernel_rfl) ⟨HH.out, HB.out.drew⟩ (fun hHeld => ?_)
   refine tks 0 ⟨some 17, _, _, _, _, none⟩ rfl ?_
   simp only [za, zb, zc, zd]
   refine tks 1 ⟨some 18, _, _, _, _, none⟩ rfl ?_
   simp only [za, zb, zc, zd]
   refine tks 2 ⟨some 19, _, _, _, _, none⟩ rfl ?_
   simp only [za, zb, zc, zd]
   refine tk (v := ?_) 3 ⟨some 20, _, _, _, _, none⟩ rfl ?_ ?_
   case refine_2 => (intro w9 hSw; obtain ⟨⟨la, lb⟩, _⟩ := hSw; go_simp; try with_reducible rfl)
   simp only [za, zb, zc, zd]
   refine tks 4 ⟨some 21, _, _, _, _, none⟩ rfl ?_
   simp only [za, zb, zc, zd]
   refine tks 5 ⟨some 22, _, _, _, _, none⟩ rfl ?_
   simp only [za, zb, zc, zd]
   refine tks 6 ⟨some 23, _, _, _, _, none⟩ rfl ?_
   simp only [za, zb, zc, zd]
   refine tk (v := ?_) 7 ⟨some 24, _, _, _, _, none⟩ rfl ?_ ?_
   case refine_2 => (intro w9 hSw; obtain ⟨⟨la, lb⟩, _⟩ := hSw; go_simp; try with_reducible rfl)
   simp only [za, zb, zc, zd]
   refine tks 8 ⟨some 25, _, _, _, _, none⟩ rfl ?_
   simp only [za, zb, zc, zd]
   refine wpAnyH_done (by kernel_rfl) ?_ _
   go_wp2_with fail
   go_roundw
   case rel => exact ⟨i + 1, by omega, by go_num, hHeld.2⟩
   case measure => simp [intOf]; omega
  ·go_wp2_with fail
   go_ret
   exact ⟨rfl, HB.out⟩
theorem own_form {W : World} {base : Nat} {e : TypeId} {size : Nat} {v : Value} {n : Nat} {xs : List Value} (h : W.ownsRow base e size v n xs) : ∃ ao c, v = .slice ao n c ∧ n ≤ c ∧ c ≤ maxLen := by
 rcases h.2 with ⟨e, z⟩ | ⟨g, cap, cur, e, h3, h4, h5, h6, _⟩
 ·exact ⟨none, 0, by rw [e]; simp [z], by simp [z], by unfold maxLen; omega⟩
 ·exact ⟨_, _, e, h5, h6⟩
theorem bxc {w : World} {b : Nat} {cs : List Value} (h : Bx w b cs) : ∀ j u, cs[j]? = some u → w.cell? ((⟨b, 0, none⟩ : Addr).add j) = some u := fun j t ht => by
 have := h.c j ht
 unfold Addr.add
 split
 ·rename_i h; subst h; exact this
 ·simpa using this
theorem own_keepS {w w1 : World} {base : Nat} {e : TypeId} {size : Nat} {v : Value} {n : Nat} {xs : List Value} (h : w.ownsRow base e size v n xs) (hb : Below w.heap.size w w1) : w1.ownsRow base e size v n xs := by
 refine ⟨h.1, ?_⟩
 rcases h.2 with h2 | ⟨g, cap, cur, e1, h3, h4, h5⟩
 ·exact .inl h2
 ·exact .inr ⟨g, cap, cur, e1, h3, (hb.block g (Array.getElem?_eq_some_iff.1 h4).1).trans h4, h5⟩
def lenOf : Value → Nat
 | .slice _ n _ => n
 | _ => 0
end Go.Proofs.YtpdmndlpgjjopaaGreatDoor
