/- DyD, DyE, DyF, DyG, as one text. -/
import Derived.Test.YtmohhbgmbicklaaGreatDoorDyXq
import Derived.Test.YtmohhbgmbicklaaGreatDoorBxCq
/- Dates: Make, Parts, moved by days and months; the reference's Make and Parts. -/
namespace Go.Proofs.YtmohhbgmbicklaaGreatDoor.Dy
open Go.RowKit
set_option linter.unusedVariables false

set_option maxRecDepth 100000 in
set_option maxHeartbeats 4000000 in
theorem parts_no (i d : Int)
    (R : Hid (∀ w : World, Cvl.Lens w → Calls Tryz.prog 17 #[.agg #[.int .i64 i, .int .i64 d]] w fun r' w' => r' = .returned (.bool false) ∧ Below w.heap.size w w'))
    (w : World) (hL : Hid (∀ W : World, Below w.heap.size w W → Cvl.Lens W)) :
    Calls Tryz.prog 40 #[.agg #[.int .i64 i, .int .i64 d]] w fun r' w' => r' = .returned (.tuple #[.int .i64 0, .int .i64 0, .int .i64 0, .int .i64 1]) ∧ Below w.heap.size w w' := by
  have K0 : Hid (BS w [(w.heap.size, [.int .i64 i, .int .i64 d])] (w.alloc (.cells #[.int .i64 i, .int .i64 d] 23))) := ((BS.start w).new [.int .i64 i, .int .i64 d] 23 rfl)
  go_enter Tryz.func40, Tryz.ntmps40
  go_wp2_with fail
  refine (R.out _ (hL.out _ K0.out.1)).mono ?_
  rintro e W1 ⟨rfl, hb⟩
  have K1 := bsb K0 hb
  clear hb K0
  obtain ⟨c1_0_0, c1_0_1⟩ := (bo1 K1).c2
  go_wp2
  exact bodyPost_ret (v := .tuple #[.int .i64 0, .int .i64 0, .int .i64 0, .int .i64 1]) (by simp [results, Tryz.results40, go_sem]) rfl ⟨rfl, K1.out.1⟩

set_option maxRecDepth 100000 in
set_option maxHeartbeats 4000000 in
theorem parts_inf (i d : Int) (hi : i ≠ 0)
    (R : Hid (∀ w : World, Cvl.Lens w → Calls Tryz.prog 17 #[.agg #[.int .i64 i, .int .i64 d]] w fun r' w' => r' = .returned (.bool true) ∧ Below w.heap.size w w'))
    (w : World) (hL : Hid (∀ W : World, Below w.heap.size w W → Cvl.Lens W)) :
    Calls Tryz.prog 40 #[.agg #[.int .i64 i, .int .i64 d]] w fun r' w' => r' = .returned (.tuple #[.int .i64 0, .int .i64 0, .int .i64 0, .int .i64 10]) ∧ Below w.heap.size w w' := by
  have i1 : (i != 0) = true := bne_iff_ne.2 hi
  have K0 : Hid (BS w [(w.heap.size, [.int .i64 i, .int .i64 d])] (w.alloc (.cells #[.int .i64 i, .int .i64 d] 23))) := ((BS.start w).new [.int .i64 i, .int .i64 d] 23 rfl)
  go_enter Tryz.func40, Tryz.ntmps40
  go_wp2_with fail
  refine (R.out _ (hL.out _ K0.out.1)).mono ?_
  rintro e W1 ⟨rfl, hb⟩
  have K1 := bsb K0 hb
  clear hb K0
  obtain ⟨c1_0_0, c1_0_1⟩ := (bo1 K1).c2
  go_wp2
  exact bodyPost_ret (v := .tuple #[.int .i64 0, .int .i64 0, .int .i64 0, .int .i64 10]) (by simp [results, Tryz.results40, go_sem]) rfl ⟨rfl, K1.out.1⟩

set_option maxRecDepth 100000 in
set_option maxHeartbeats 4000000 in
theorem parts_yes (d y m q e : Int)
    (R : Hid (∀ w : World, Cvl.Lens w → Calls Tryz.prog 17 #[.agg #[.int .i64 0, .int .i64 d]] w fun r' w' => r' = .returned (.bool true) ∧ Below w.heap.size w w'))
    (D : Hid (∀ w : World, Cvl.Lens w → Calls Tryz.prog 69 #[.int .i64 d] w fun r' w' => r' = .returned (.tuple #[.int .i64 y, .int .i64 m, .int .i64 q, .int .i64 e]) ∧ w' = w))
    (w : World) (hL : Hid (∀ W : World, Below w.heap.size w W → Cvl.Lens W)) :
    Calls Tryz.prog 40 #[.agg #[.int .i64 0, .int .i64 d]] w fun r' w' => r' = .returned (.tuple #[.int .i64 y, .int .i64 m, .int .i64 q, .int .i64 e]) ∧ Below w.heap.size w w' := by
  have K0 : Hid (BS w [(w.heap.size, [.int .i64 0, .int .i64 d])] (w.alloc (.cells #[.int .i64 0, .int .i64 d] 23))) := ((BS.start w).new [.int .i64 0, .int .i64 d] 23 rfl)
  go_enter Tryz.func40, Tryz.ntmps40
  go_wp2_with fail
  refine (R.out _ (hL.out _ K0.out.1)).mono ?_
  rintro e W1 ⟨rfl, hb⟩
  have K1 := bsb K0 hb
  clear hb K0
  obtain ⟨c1_0_0, c1_0_1⟩ := (bo1 K1).c2
  go_wp2_with fail
  refine (D.out _ (hL.out _ K1.out.1)).mono ?_
  rintro e W2 ⟨rfl, hw⟩
  rw [hw]
  clear hw W2
  go_wp2
  exact bodyPost_ret (v := .tuple #[.int .i64 y, .int .i64 m, .int .i64 q, .int .i64 e]) (by simp [results, Tryz.results40, go_sem]) rfl ⟨rfl, K1.out.1⟩

set_option maxRecDepth 100000 in
set_option maxHeartbeats 4000000 in
theorem rparts_no (i d : Int)
    (R : Hid (∀ w : World, Calls Tryz.prog 21 #[.agg #[.int .i64 i, .int .i64 d]] w fun r' w' => r' = .returned (.bool false) ∧ Below w.heap.size w w'))
    (w : World) :
    Calls Tryz.prog 44 #[.agg #[.int .i64 i, .int .i64 d]] w fun r' w' => r' = .returned (.tuple #[.int .i64 0, .int .i64 0, .int .i64 0, .int .i64 1]) ∧ Below w.heap.size w w' := by
  have K0 : Hid (BS w [(w.heap.size, [.int .i64 i, .int .i64 d])] (w.alloc (.cells #[.int .i64 i, .int .i64 d] 23))) := ((BS.start w).new [.int .i64 i, .int .i64 d] 23 rfl)
  go_enter Tryz.func44, Tryz.ntmps44
  go_wp2_with fail
  refine (R.out _).mono ?_
  rintro e W1 ⟨rfl, hb⟩
  have K1 := bsb K0 hb
  clear hb K0
  obtain ⟨c1_0_0, c1_0_1⟩ := (bo1 K1).c2
  go_wp2
  exact bodyPost_ret (v := .tuple #[.int .i64 0, .int .i64 0, .int .i64 0, .int .i64 1]) (by simp [results, Tryz.results44, go_sem]) rfl ⟨rfl, K1.out.1⟩

set_option maxRecDepth 100000 in
set_option maxHeartbeats 4000000 in
theorem rparts_inf (i d : Int) (hi : i ≠ 0)
    (R : Hid (∀ w : World, Calls Tryz.prog 21 #[.agg #[.int .i64 i, .int .i64 d]] w fun r' w' => r' = .returned (.bool true) ∧ Below w.heap.size w w'))
    (w : World) :
    Calls Tryz.prog 44 #[.agg #[.int .i64 i, .int .i64 d]] w fun r' w' => r' = .returned (.tuple #[.int .i64 0, .int .i64 0, .int .i64 0, .int .i64 10]) ∧ Below w.heap.size w w' := by
  have i1 : (i != 0) = true := bne_iff_ne.2 hi
  have K0 : Hid (BS w [(w.heap.size, [.int .i64 i, .int .i64 d])] (w.alloc (.cells #[.int .i64 i, .int .i64 d] 23))) := ((BS.start w).new [.int .i64 i, .int .i64 d] 23 rfl)
  go_enter Tryz.func44, Tryz.ntmps44
  go_wp2_with fail
  refine (R.out _).mono ?_
  rintro e W1 ⟨rfl, hb⟩
  have K1 := bsb K0 hb
  clear hb K0
  obtain ⟨c1_0_0, c1_0_1⟩ := (bo1 K1).c2
  go_wp2
  exact bodyPost_ret (v := .tuple #[.int .i64 0, .int .i64 0, .int .i64 0, .int .i64 10]) (by simp [results, Tryz.results44, go_sem]) rfl ⟨rfl, K1.out.1⟩

set_option maxRecDepth 100000 in
set_option maxHeartbeats 4000000 in
theorem rparts_yes (d y m q e : Int)
    (R : Hid (∀ w : World, Calls Tryz.prog 21 #[.agg #[.int .i64 0, .int .i64 d]] w fun r' w' => r' = .returned (.bool true) ∧ Below w.heap.size w w'))
    (D : Hid (∀ w : World, Calls Tryz.prog 72 #[.int .i64 d] w fun r' w' => r' = .returned (.tuple #[.int .i64 y, .int .i64 m, .int .i64 q, .int .i64 e]) ∧ w' = w))
    (w : World) :
    Calls Tryz.prog 44 #[.agg #[.int .i64 0, .int .i64 d]] w fun r' w' => r' = .returned (.tuple #[.int .i64 y, .int .i64 m, .int .i64 q, .int .i64 e]) ∧ Below w.heap.size w w' := by
  have K0 : Hid (BS w [(w.heap.size, [.int .i64 0, .int .i64 d])] (w.alloc (.cells #[.int .i64 0, .int .i64 d] 23))) := ((BS.start w).new [.int .i64 0, .int .i64 d] 23 rfl)
  go_enter Tryz.func44, Tryz.ntmps44
  go_wp2_with fail
  refine (R.out _).mono ?_
  rintro e W1 ⟨rfl, hb⟩
  have K1 := bsb K0 hb
  clear hb K0
  obtain ⟨c1_0_0, c1_0_1⟩ := (bo1 K1).c2
  go_wp2_with fail
  refine (D.out _).mono ?_
  rintro e W2 ⟨rfl, hw⟩
  rw [hw]
  clear hw W2
  go_wp2
  exact bodyPost_ret (v := .tuple #[.int .i64 y, .int .i64 m, .int .i64 q, .int .i64 e]) (by simp [results, Tryz.results44, go_sem]) rfl ⟨rfl, K1.out.1⟩


end Go.Proofs.YtmohhbgmbicklaaGreatDoor.Dy

/- Dates apart and in order; the reference's. -/
namespace Go.Proofs.YtmohhbgmbicklaaGreatDoor.Dy
open Go.RowKit
set_option linter.unusedVariables false

end Go.Proofs.YtmohhbgmbicklaaGreatDoor.Dy

/- Stamps of dates, dates of stamps; the reference's. -/
namespace Go.Proofs.YtmohhbgmbicklaaGreatDoor.Dy
open Go.RowKit
set_option linter.unusedVariables false

set_option maxRecDepth 100000 in
set_option maxHeartbeats 4000000 in
theorem sof_no (i u : Int)
    (R : Hid (∀ w : World, Cvl.Lens w → Calls Tryz.prog 24 #[.agg #[.int .i64 i, .int .i64 u]] w fun r' w' => r' = .returned (.bool false) ∧ Below w.heap.size w w'))
    (w : World) (hL : Hid (∀ W : World, Below w.heap.size w W → Cvl.Lens W)) :
    Calls Tryz.prog 48 #[.agg #[.int .i64 i, .int .i64 u]] w fun r' w' => r' = .returned (.tuple #[.agg #[.int .i64 0, .int .i64 0], .int .i64 0, .int .i64 1]) ∧ Below w.heap.size w w' := by
  have K0 : Hid (BS w [(w.heap.size + 1, [.int .i64 0, .int .i64 0]), (w.heap.size, [.int .i64 i, .int .i64 u])] ((w.alloc (.cells #[.int .i64 i, .int .i64 u] 25)).alloc (.cells #[.int .i64 0, .int .i64 0] 23))) := (((BS.start w).new [.int .i64 i, .int .i64 u] 25 rfl).new [.int .i64 0, .int .i64 0] 23 (by simp))
  go_enter Tryz.func48, Tryz.ntmps48
  go_wp2_with fail
  refine (R.out _ (hL.out _ K0.out.1)).mono ?_
  rintro e W1 ⟨rfl, hb⟩
  have K1 := bsb K0 hb
  clear hb K0
  obtain ⟨c1_0_0, c1_0_1⟩ := (bo1 K1).c2
  obtain ⟨z1_0_0, z1_0_1⟩ := (bo1 K1).f2
  obtain ⟨c1_1_0, c1_1_1⟩ := (bo2 K1).c2
  have XF : Hid (Bx (W1.setCells (w.heap.size + 1) 0 [.int .i64 0, .int .i64 0]) (w.heap.size + 1) [.int .i64 0, .int .i64 0]) := (K1.out.at (w.heap.size + 1) [.int .i64 0, .int .i64 0] (by simp)).setAll _ rfl
  have BF : Hid (Below w.heap.size w (W1.setCells (w.heap.size + 1) 0 [.int .i64 0, .int .i64 0])) := below_setCells (by omega) _ _ _ K1.out.1
  have y0 := XF.out.c 0 rfl
  have y1 := XF.out.c 1 rfl
  simp only [World.setCells, Nat.zero_add] at y0 y1
  clear XF
  go_wp2
  exact bodyPost_ret (v := .tuple #[.agg #[.int .i64 0, .int .i64 0], .int .i64 0, .int .i64 1]) (by simp [results, Tryz.results48, go_sem, y0, y1]) rfl ⟨rfl, BF.out⟩

set_option maxRecDepth 100000 in
set_option maxHeartbeats 4000000 in
theorem sof_inf (i u : Int) (hi : i ≠ 0)
    (R : Hid (∀ w : World, Cvl.Lens w → Calls Tryz.prog 24 #[.agg #[.int .i64 i, .int .i64 u]] w fun r' w' => r' = .returned (.bool true) ∧ Below w.heap.size w w'))
    (w : World) (hL : Hid (∀ W : World, Below w.heap.size w W → Cvl.Lens W)) :
    Calls Tryz.prog 48 #[.agg #[.int .i64 i, .int .i64 u]] w fun r' w' => r' = .returned (.tuple #[.agg #[.int .i64 i, .int .i64 0], .int .i64 0, .int .i64 0]) ∧ Below w.heap.size w w' := by
  have i1 : (i != 0) = true := bne_iff_ne.2 hi
  have K0 : Hid (BS w [(w.heap.size + 1, [.int .i64 0, .int .i64 0]), (w.heap.size, [.int .i64 i, .int .i64 u])] ((w.alloc (.cells #[.int .i64 i, .int .i64 u] 25)).alloc (.cells #[.int .i64 0, .int .i64 0] 23))) := (((BS.start w).new [.int .i64 i, .int .i64 u] 25 rfl).new [.int .i64 0, .int .i64 0] 23 (by simp))
  go_enter Tryz.func48, Tryz.ntmps48
  go_wp2_with fail
  refine (R.out _ (hL.out _ K0.out.1)).mono ?_
  rintro e W1 ⟨rfl, hb⟩
  have K1 := bsb K0 hb
  clear hb K0
  obtain ⟨c1_0_0, c1_0_1⟩ := (bo1 K1).c2
  obtain ⟨z1_0_0, z1_0_1⟩ := (bo1 K1).f2
  obtain ⟨c1_1_0, c1_1_1⟩ := (bo2 K1).c2
  have XF : Hid (Bx (W1.setCells (w.heap.size + 1) 0 [.int .i64 i, .int .i64 0]) (w.heap.size + 1) [.int .i64 i, .int .i64 0]) := (K1.out.at (w.heap.size + 1) [.int .i64 0, .int .i64 0] (by simp)).setAll _ rfl
  have BF : Hid (Below w.heap.size w (W1.setCells (w.heap.size + 1) 0 [.int .i64 i, .int .i64 0])) := below_setCells (by omega) _ _ _ K1.out.1
  have y0 := XF.out.c 0 rfl
  have y1 := XF.out.c 1 rfl
  simp only [World.setCells, Nat.zero_add] at y0 y1
  clear XF
  go_wp2
  exact bodyPost_ret (v := .tuple #[.agg #[.int .i64 i, .int .i64 0], .int .i64 0, .int .i64 0]) (by simp [results, Tryz.results48, go_sem, y0, y1]) rfl ⟨rfl, BF.out⟩

set_option maxRecDepth 100000 in
set_option maxHeartbeats 4000000 in
theorem sof_yes (u q r : Int)
    (R : Hid (∀ w : World, Cvl.Lens w → Calls Tryz.prog 24 #[.agg #[.int .i64 0, .int .i64 u]] w fun r' w' => r' = .returned (.bool true) ∧ Below w.heap.size w w'))
    (S : Hid (∀ w : World, Calls Tryz.prog 47 #[.int .i64 u] w fun r' w' => r' = .returned (.tuple #[.int .i64 q, .int .i64 r]) ∧ w' = w))
    (w : World) (hL : Hid (∀ W : World, Below w.heap.size w W → Cvl.Lens W)) :
    Calls Tryz.prog 48 #[.agg #[.int .i64 0, .int .i64 u]] w fun r' w' => r' = .returned (.tuple #[.agg #[.int .i64 0, .int .i64 q], .int .i64 r, .int .i64 0]) ∧ Below w.heap.size w w' := by
  have K0 : Hid (BS w [(w.heap.size + 1, [.int .i64 0, .int .i64 0]), (w.heap.size, [.int .i64 0, .int .i64 u])] ((w.alloc (.cells #[.int .i64 0, .int .i64 u] 25)).alloc (.cells #[.int .i64 0, .int .i64 0] 23))) := (((BS.start w).new [.int .i64 0, .int .i64 u] 25 rfl).new [.int .i64 0, .int .i64 0] 23 (by simp))
  go_enter Tryz.func48, Tryz.ntmps48
  go_wp2_with fail
  refine (R.out _ (hL.out _ K0.out.1)).mono ?_
  rintro e W1 ⟨rfl, hb⟩
  have K1 := bsb K0 hb
  clear hb K0
  obtain ⟨c1_0_0, c1_0_1⟩ := (bo1 K1).c2
  obtain ⟨z1_0_0, z1_0_1⟩ := (bo1 K1).f2
  obtain ⟨c1_1_0, c1_1_1⟩ := (bo2 K1).c2
  go_wp2_with fail
  refine (S.out _).mono ?_
  rintro e W2 ⟨rfl, hw⟩
  rw [hw]
  clear hw W2
  have XF : Hid (Bx (W1.setCells (w.heap.size + 1) 0 [.int .i64 0, .int .i64 q]) (w.heap.size + 1) [.int .i64 0, .int .i64 q]) := (K1.out.at (w.heap.size + 1) [.int .i64 0, .int .i64 0] (by simp)).setAll _ rfl
  have BF : Hid (Below w.heap.size w (W1.setCells (w.heap.size + 1) 0 [.int .i64 0, .int .i64 q])) := below_setCells (by omega) _ _ _ K1.out.1
  have y0 := XF.out.c 0 rfl
  have y1 := XF.out.c 1 rfl
  simp only [World.setCells, Nat.zero_add] at y0 y1
  clear XF
  go_wp2
  exact bodyPost_ret (v := .tuple #[.agg #[.int .i64 0, .int .i64 q], .int .i64 r, .int .i64 0]) (by simp [results, Tryz.results48, go_sem, y0, y1]) rfl ⟨rfl, BF.out⟩

set_option maxRecDepth 100000 in
set_option maxHeartbeats 4000000 in
theorem srof_no (i u : Int)
    (R : Hid (∀ w : World, Calls Tryz.prog 26 #[.agg #[.int .i64 i, .int .i64 u]] w fun r' w' => r' = .returned (.bool false) ∧ Below w.heap.size w w'))
    (w : World) :
    Calls Tryz.prog 51 #[.agg #[.int .i64 i, .int .i64 u]] w fun r' w' => r' = .returned (.tuple #[.agg #[.int .i64 0, .int .i64 0], .int .i64 0, .int .i64 1]) ∧ Below w.heap.size w w' := by
  have K0 : Hid (BS w [(w.heap.size + 1, [.int .i64 0, .int .i64 0]), (w.heap.size, [.int .i64 i, .int .i64 u])] ((w.alloc (.cells #[.int .i64 i, .int .i64 u] 25)).alloc (.cells #[.int .i64 0, .int .i64 0] 23))) := (((BS.start w).new [.int .i64 i, .int .i64 u] 25 rfl).new [.int .i64 0, .int .i64 0] 23 (by simp))
  go_enter Tryz.func51, Tryz.ntmps51
  go_wp2_with fail
  refine (R.out _).mono ?_
  rintro e W1 ⟨rfl, hb⟩
  have K1 := bsb K0 hb
  clear hb K0
  obtain ⟨c1_0_0, c1_0_1⟩ := (bo1 K1).c2
  obtain ⟨z1_0_0, z1_0_1⟩ := (bo1 K1).f2
  obtain ⟨c1_1_0, c1_1_1⟩ := (bo2 K1).c2
  have XF : Hid (Bx (W1.setCells (w.heap.size + 1) 0 [.int .i64 0, .int .i64 0]) (w.heap.size + 1) [.int .i64 0, .int .i64 0]) := (K1.out.at (w.heap.size + 1) [.int .i64 0, .int .i64 0] (by simp)).setAll _ rfl
  have BF : Hid (Below w.heap.size w (W1.setCells (w.heap.size + 1) 0 [.int .i64 0, .int .i64 0])) := below_setCells (by omega) _ _ _ K1.out.1
  have y0 := XF.out.c 0 rfl
  have y1 := XF.out.c 1 rfl
  simp only [World.setCells, Nat.zero_add] at y0 y1
  clear XF
  go_wp2
  exact bodyPost_ret (v := .tuple #[.agg #[.int .i64 0, .int .i64 0], .int .i64 0, .int .i64 1]) (by simp [results, Tryz.results51, go_sem, y0, y1]) rfl ⟨rfl, BF.out⟩

set_option maxRecDepth 100000 in
set_option maxHeartbeats 4000000 in
theorem srof_inf (i u : Int) (hi : i ≠ 0)
    (R : Hid (∀ w : World, Calls Tryz.prog 26 #[.agg #[.int .i64 i, .int .i64 u]] w fun r' w' => r' = .returned (.bool true) ∧ Below w.heap.size w w'))
    (w : World) :
    Calls Tryz.prog 51 #[.agg #[.int .i64 i, .int .i64 u]] w fun r' w' => r' = .returned (.tuple #[.agg #[.int .i64 i, .int .i64 0], .int .i64 0, .int .i64 0]) ∧ Below w.heap.size w w' := by
  have i1 : (i != 0) = true := bne_iff_ne.2 hi
  have K0 : Hid (BS w [(w.heap.size + 1, [.int .i64 0, .int .i64 0]), (w.heap.size, [.int .i64 i, .int .i64 u])] ((w.alloc (.cells #[.int .i64 i, .int .i64 u] 25)).alloc (.cells #[.int .i64 0, .int .i64 0] 23))) := (((BS.start w).new [.int .i64 i, .int .i64 u] 25 rfl).new [.int .i64 0, .int .i64 0] 23 (by simp))
  go_enter Tryz.func51, Tryz.ntmps51
  go_wp2_with fail
  refine (R.out _).mono ?_
  rintro e W1 ⟨rfl, hb⟩
  have K1 := bsb K0 hb
  clear hb K0
  obtain ⟨c1_0_0, c1_0_1⟩ := (bo1 K1).c2
  obtain ⟨z1_0_0, z1_0_1⟩ := (bo1 K1).f2
  obtain ⟨c1_1_0, c1_1_1⟩ := (bo2 K1).c2
  have XF : Hid (Bx (W1.setCells (w.heap.size + 1) 0 [.int .i64 i, .int .i64 0]) (w.heap.size + 1) [.int .i64 i, .int .i64 0]) := (K1.out.at (w.heap.size + 1) [.int .i64 0, .int .i64 0] (by simp)).setAll _ rfl
  have BF : Hid (Below w.heap.size w (W1.setCells (w.heap.size + 1) 0 [.int .i64 i, .int .i64 0])) := below_setCells (by omega) _ _ _ K1.out.1
  have y0 := XF.out.c 0 rfl
  have y1 := XF.out.c 1 rfl
  simp only [World.setCells, Nat.zero_add] at y0 y1
  clear XF
  go_wp2
  exact bodyPost_ret (v := .tuple #[.agg #[.int .i64 i, .int .i64 0], .int .i64 0, .int .i64 0]) (by simp [results, Tryz.results51, go_sem, y0, y1]) rfl ⟨rfl, BF.out⟩

set_option maxRecDepth 100000 in
set_option maxHeartbeats 4000000 in
theorem srof_yes (u q r : Int)
    (R : Hid (∀ w : World, Calls Tryz.prog 26 #[.agg #[.int .i64 0, .int .i64 u]] w fun r' w' => r' = .returned (.bool true) ∧ Below w.heap.size w w'))
    (S : Hid (∀ w : World, Calls Tryz.prog 50 #[.int .i64 u] w fun r' w' => r' = .returned (.tuple #[.int .i64 q, .int .i64 r]) ∧ Below w.heap.size w w'))
    (w : World) :
    Calls Tryz.prog 51 #[.agg #[.int .i64 0, .int .i64 u]] w fun r' w' => r' = .returned (.tuple #[.agg #[.int .i64 0, .int .i64 q], .int .i64 r, .int .i64 0]) ∧ Below w.heap.size w w' := by
  have K0 : Hid (BS w [(w.heap.size + 1, [.int .i64 0, .int .i64 0]), (w.heap.size, [.int .i64 0, .int .i64 u])] ((w.alloc (.cells #[.int .i64 0, .int .i64 u] 25)).alloc (.cells #[.int .i64 0, .int .i64 0] 23))) := (((BS.start w).new [.int .i64 0, .int .i64 u] 25 rfl).new [.int .i64 0, .int .i64 0] 23 (by simp))
  go_enter Tryz.func51, Tryz.ntmps51
  go_wp2_with fail
  refine (R.out _).mono ?_
  rintro e W1 ⟨rfl, hb⟩
  have K1 := bsb K0 hb
  clear hb K0
  obtain ⟨c1_0_0, c1_0_1⟩ := (bo1 K1).c2
  obtain ⟨z1_0_0, z1_0_1⟩ := (bo1 K1).f2
  obtain ⟨c1_1_0, c1_1_1⟩ := (bo2 K1).c2
  go_wp2_with fail
  refine (S.out _).mono ?_
  rintro e W2 ⟨rfl, hb⟩
  have K2 := bsb K1 hb
  clear c1_0_0 c1_0_1 z1_0_0 z1_0_1 c1_1_0 c1_1_1
  clear hb K1
  obtain ⟨c2_0_0, c2_0_1⟩ := (bo1 K2).c2
  obtain ⟨z2_0_0, z2_0_1⟩ := (bo1 K2).f2
  obtain ⟨c2_1_0, c2_1_1⟩ := (bo2 K2).c2
  have XF : Hid (Bx (W2.setCells (w.heap.size + 1) 0 [.int .i64 0, .int .i64 q]) (w.heap.size + 1) [.int .i64 0, .int .i64 q]) := (K2.out.at (w.heap.size + 1) [.int .i64 0, .int .i64 0] (by simp)).setAll _ rfl
  have BF : Hid (Below w.heap.size w (W2.setCells (w.heap.size + 1) 0 [.int .i64 0, .int .i64 q])) := below_setCells (by omega) _ _ _ K2.out.1
  have y0 := XF.out.c 0 rfl
  have y1 := XF.out.c 1 rfl
  simp only [World.setCells, Nat.zero_add] at y0 y1
  clear XF
  go_wp2
  exact bodyPost_ret (v := .tuple #[.agg #[.int .i64 0, .int .i64 q], .int .i64 r, .int .i64 0]) (by simp [results, Tryz.results51, go_sem, y0, y1]) rfl ⟨rfl, BF.out⟩

end Go.Proofs.YtmohhbgmbicklaaGreatDoor.Dy

/- Dates and stamps, whole: what each function answers, the program's and the reference's alike. -/
namespace Go.Proofs.YtmohhbgmbicklaaGreatDoor.Dy
open Go.RowKit
set_option linter.unusedVariables false

/-- the parts of a date, and what is wrong. -/
def PartsIs (i d y m q e : Int) : Prop := (dR i d = false ∧ y = 0 ∧ m = 0 ∧ q = 0 ∧ e = 1) ∨ (dR i d = true ∧ i ≠ 0 ∧ y = 0 ∧ m = 0 ∧ q = 0 ∧ e = 10) ∨ (i = 0 ∧ dok d = true ∧ Cv.Is d y m q ∧ e = 0)
theorem parts_any (i d y m q e : Int) (h : PartsIs i d y m q e) (w : World) (hL : Cvl.Lens w) :
    Calls Tryz.prog 40 #[.agg #[.int .i64 i, .int .i64 d]] w fun r w' => r = .returned (.tuple #[.int .i64 y, .int .i64 m, .int .i64 q, .int .i64 e]) ∧ Below w.heap.size w w' := by
  rcases h with ⟨h, rfl, rfl, rfl, rfl⟩ | ⟨h, h0, rfl, rfl, rfl, rfl⟩ | ⟨rfl, h, hd, rfl⟩
  · exact parts_no i d (fun w hh => by rw [← h]; exact right_any i d w hh) w (lens_of hL)
  · exact parts_inf i d h0 (fun w hh => by rw [← h]; exact right_any i d w hh) w (lens_of hL)
  · exact parts_yes d y m q 0 (fun w hh => by rw [← h]; exact right_any 0 d w hh) (fun w hh => Cvl.date_yes d y m q (can_dok h) hd w hh) w (lens_of hL)

theorem rparts_any (i d y m q e : Int) (h : PartsIs i d y m q e) (w : World) :
    Calls Tryz.prog 44 #[.agg #[.int .i64 i, .int .i64 d]] w fun r w' => r = .returned (.tuple #[.int .i64 y, .int .i64 m, .int .i64 q, .int .i64 e]) ∧ Below w.heap.size w w' := by
  rcases h with ⟨h, rfl, rfl, rfl, rfl⟩ | ⟨h, h0, rfl, rfl, rfl, rfl⟩ | ⟨rfl, h, hd, rfl⟩
  · exact rparts_no i d (fun w => by rw [← h]; exact rright_any i d w) w
  · exact rparts_inf i d h0 (fun w => by rw [← h]; exact rright_any i d w) w
  · exact rparts_yes d y m q 0 (fun w => by rw [← h]; exact rright_any 0 d w) (fun w => Cvl.rdate_yes d y m q (can_dok h) hd w) w

/-- the date of a stamp. -/
def ofI (i u : Int) : Int := if sR i u = true then i else 0
def ofD (i u : Int) : Int := if sR i u = true ∧ i = 0 then u / 86400000000 else 0
def ofU (i u : Int) : Int := if sR i u = true ∧ i = 0 then u % 86400000000 else 0
def ofE (i u : Int) : Int := if sR i u = true then 0 else 1

theorem sof_any (i u : Int) (u1 : -9223372036854775808 ≤ u) (u2 : u ≤ 9223372036854775807) (w : World) (hL : Cvl.Lens w) :
    Calls Tryz.prog 48 #[.agg #[.int .i64 i, .int .i64 u]] w fun r w' => r = .returned (.tuple #[.agg #[.int .i64 (ofI i u), .int .i64 (ofD i u)], .int .i64 (ofU i u), .int .i64 (ofE i u)]) ∧ Below w.heap.size w w' := by
  unfold ofI ofD ofU ofE
  cases h : sR i u
  · rw [if_neg (by decide), if_neg (fun q => absurd q.1 (by decide)), if_neg (fun q => absurd q.1 (by decide)), if_neg (by decide)]; exact sof_no i u (fun w hh => by rw [← h]; exact rst_any i u u1 u2 w hh) w (lens_of hL)
  · by_cases h0 : i = 0
    · subst h0
      rw [if_pos rfl, if_pos ⟨rfl, rfl⟩, if_pos ⟨rfl, rfl⟩, if_pos rfl]; exact sof_yes u _ _ (fun w hh => by rw [← h]; exact rst_any 0 u u1 u2 w hh) (fun w => split_any u u1 u2 w) w (lens_of hL)
    · rw [if_pos rfl, if_neg (fun q => h0 q.2), if_neg (fun q => h0 q.2), if_pos rfl]; exact sof_inf i u h0 (fun w hh => by rw [← h]; exact rst_any i u u1 u2 w hh) w (lens_of hL)

theorem srof_any (i u : Int) (u1 : -9223372036854775808 ≤ u) (u2 : u ≤ 9223372036854775807) (w : World) :
    Calls Tryz.prog 51 #[.agg #[.int .i64 i, .int .i64 u]] w fun r w' => r = .returned (.tuple #[.agg #[.int .i64 (ofI i u), .int .i64 (ofD i u)], .int .i64 (ofU i u), .int .i64 (ofE i u)]) ∧ Below w.heap.size w w' := by
  unfold ofI ofD ofU ofE
  cases h : sR i u
  · rw [if_neg (by decide), if_neg (fun q => absurd q.1 (by decide)), if_neg (fun q => absurd q.1 (by decide)), if_neg (by decide)]; exact srof_no i u (fun w => by rw [← h]; exact rrst_any i u u1 u2 w) w
  · by_cases h0 : i = 0
    · subst h0
      rw [if_pos rfl, if_pos ⟨rfl, rfl⟩, if_pos ⟨rfl, rfl⟩, if_pos rfl]; exact srof_yes u _ _ (fun w => by rw [← h]; exact rrst_any 0 u u1 u2 w) (fun w => rsplit_any u u1 u2 w) w
    · rw [if_pos rfl, if_neg (fun q => h0 q.2), if_neg (fun q => h0 q.2), if_pos rfl]; exact srof_inf i u h0 (fun w => by rw [← h]; exact rrst_any i u u1 u2 w) w

/-- the stamp of a time of a date. -/
def stR (i d u : Int) : Prop := dR i d = true ∧ 0 ≤ u ∧ u ≤ 86400000000
instance (i d u : Int) : Decidable (stR i d u) := by unfold stR; infer_instance
end Go.Proofs.YtmohhbgmbicklaaGreatDoor.Dy
