/- DyD, DyE, DyF, DyG, as one text. -/
import Derived.Test.YtmohhbgmbicklaaDoorDyXq
import Derived.Test.YtmohhbgmbicklaaDoorBxCq
/- Dates: Make, Parts, moved by days and months; the reference's Make and Parts. -/
namespace Go.Proofs.YtmohhbgmbicklaaDoor.Dy
open Go.RowKit
set_option linter.unusedVariables false

set_option maxRecDepth 100000 in
set_option maxHeartbeats 4000000 in
theorem parts_no (i d : Int)
    (R : Hid (∀ w : World, Cvl.Lens w → Calls Tryd.prog 41 #[.agg #[.int .i64 i, .int .i64 d]] w fun r' w' => r' = .returned (.bool false) ∧ Below w.heap.size w w'))
    (w : World) (hL : Hid (∀ W : World, Below w.heap.size w W → Cvl.Lens W)) :
    Calls Tryd.prog 49 #[.agg #[.int .i64 i, .int .i64 d]] w fun r' w' => r' = .returned (.tuple #[.int .i64 0, .int .i64 0, .int .i64 0, .int .i64 1]) ∧ Below w.heap.size w w' := by
  have K0 : Hid (BS w [(w.heap.size, [.int .i64 i, .int .i64 d])] (w.alloc (.cells #[.int .i64 i, .int .i64 d] 37))) := ((BS.start w).new [.int .i64 i, .int .i64 d] 37 rfl)
  go_enter Tryd.func49, Tryd.ntmps49
  go_wp2_with fail
  refine (R.out _ (hL.out _ K0.out.1)).mono ?_
  rintro e W1 ⟨rfl, hb⟩
  have K1 := bsb K0 hb
  clear hb K0
  obtain ⟨c1_0_0, c1_0_1⟩ := (bo1 K1).c2
  go_wp2
  exact bodyPost_ret (v := .tuple #[.int .i64 0, .int .i64 0, .int .i64 0, .int .i64 1]) (by simp [results, Tryd.results49, go_sem]) rfl ⟨rfl, K1.out.1⟩

set_option maxRecDepth 100000 in
set_option maxHeartbeats 4000000 in
theorem parts_inf (i d : Int) (hi : i ≠ 0)
    (R : Hid (∀ w : World, Cvl.Lens w → Calls Tryd.prog 41 #[.agg #[.int .i64 i, .int .i64 d]] w fun r' w' => r' = .returned (.bool true) ∧ Below w.heap.size w w'))
    (w : World) (hL : Hid (∀ W : World, Below w.heap.size w W → Cvl.Lens W)) :
    Calls Tryd.prog 49 #[.agg #[.int .i64 i, .int .i64 d]] w fun r' w' => r' = .returned (.tuple #[.int .i64 0, .int .i64 0, .int .i64 0, .int .i64 10]) ∧ Below w.heap.size w w' := by
  have i1 : (i != 0) = true := bne_iff_ne.2 hi
  have K0 : Hid (BS w [(w.heap.size, [.int .i64 i, .int .i64 d])] (w.alloc (.cells #[.int .i64 i, .int .i64 d] 37))) := ((BS.start w).new [.int .i64 i, .int .i64 d] 37 rfl)
  go_enter Tryd.func49, Tryd.ntmps49
  go_wp2_with fail
  refine (R.out _ (hL.out _ K0.out.1)).mono ?_
  rintro e W1 ⟨rfl, hb⟩
  have K1 := bsb K0 hb
  clear hb K0
  obtain ⟨c1_0_0, c1_0_1⟩ := (bo1 K1).c2
  go_wp2
  exact bodyPost_ret (v := .tuple #[.int .i64 0, .int .i64 0, .int .i64 0, .int .i64 10]) (by simp [results, Tryd.results49, go_sem]) rfl ⟨rfl, K1.out.1⟩

set_option maxRecDepth 100000 in
set_option maxHeartbeats 4000000 in
theorem parts_yes (d y m q e : Int)
    (R : Hid (∀ w : World, Cvl.Lens w → Calls Tryd.prog 41 #[.agg #[.int .i64 0, .int .i64 d]] w fun r' w' => r' = .returned (.bool true) ∧ Below w.heap.size w w'))
    (D : Hid (∀ w : World, Cvl.Lens w → Calls Tryd.prog 56 #[.int .i64 d] w fun r' w' => r' = .returned (.tuple #[.int .i64 y, .int .i64 m, .int .i64 q, .int .i64 e]) ∧ w' = w))
    (w : World) (hL : Hid (∀ W : World, Below w.heap.size w W → Cvl.Lens W)) :
    Calls Tryd.prog 49 #[.agg #[.int .i64 0, .int .i64 d]] w fun r' w' => r' = .returned (.tuple #[.int .i64 y, .int .i64 m, .int .i64 q, .int .i64 e]) ∧ Below w.heap.size w w' := by
  have K0 : Hid (BS w [(w.heap.size, [.int .i64 0, .int .i64 d])] (w.alloc (.cells #[.int .i64 0, .int .i64 d] 37))) := ((BS.start w).new [.int .i64 0, .int .i64 d] 37 rfl)
  go_enter Tryd.func49, Tryd.ntmps49
  go_wp2_with fail
  refine (R.out _ (hL.out _ K0.out.1)).mono ?_
  rintro e W1 ⟨rfl, hb⟩
  have K1 := bsb K0 hb
  clear hb K0
  obtain ⟨c1_0_0, c1_0_1⟩ := (bo1 K1).c2
  go_wp2_with fail
  refine (D.out _ (hL.out _ K1.out.1)).mono ?_
  rintro e W2 ⟨rfl, hw⟩
  rw [hw]
  clear hw W2
  go_wp2
  exact bodyPost_ret (v := .tuple #[.int .i64 y, .int .i64 m, .int .i64 q, .int .i64 e]) (by simp [results, Tryd.results49, go_sem]) rfl ⟨rfl, K1.out.1⟩


end Go.Proofs.YtmohhbgmbicklaaDoor.Dy

/- Dates apart and in order; the reference's. -/
namespace Go.Proofs.YtmohhbgmbicklaaDoor.Dy
open Go.RowKit
set_option linter.unusedVariables false

end Go.Proofs.YtmohhbgmbicklaaDoor.Dy

/- Stamps of dates, dates of stamps; the reference's. -/
namespace Go.Proofs.YtmohhbgmbicklaaDoor.Dy
open Go.RowKit
set_option linter.unusedVariables false


end Go.Proofs.YtmohhbgmbicklaaDoor.Dy

/- Dates and stamps, whole: what each function answers, the program's and the reference's alike. -/
namespace Go.Proofs.YtmohhbgmbicklaaDoor.Dy
open Go.RowKit
set_option linter.unusedVariables false

/-- the parts of a date, and what is wrong. -/
def PartsIs (i d y m q e : Int) : Prop := (dR i d = false ∧ y = 0 ∧ m = 0 ∧ q = 0 ∧ e = 1) ∨ (dR i d = true ∧ i ≠ 0 ∧ y = 0 ∧ m = 0 ∧ q = 0 ∧ e = 10) ∨ (i = 0 ∧ dok d = true ∧ Cv.Is d y m q ∧ e = 0)
theorem parts_any (i d y m q e : Int) (h : PartsIs i d y m q e) (w : World) (hL : Cvl.Lens w) :
    Calls Tryd.prog 49 #[.agg #[.int .i64 i, .int .i64 d]] w fun r w' => r = .returned (.tuple #[.int .i64 y, .int .i64 m, .int .i64 q, .int .i64 e]) ∧ Below w.heap.size w w' := by
  rcases h with ⟨h, rfl, rfl, rfl, rfl⟩ | ⟨h, h0, rfl, rfl, rfl, rfl⟩ | ⟨rfl, h, hd, rfl⟩
  · exact parts_no i d (fun w hh => by rw [← h]; exact right_any i d w hh) w (lens_of hL)
  · exact parts_inf i d h0 (fun w hh => by rw [← h]; exact right_any i d w hh) w (lens_of hL)
  · exact parts_yes d y m q 0 (fun w hh => by rw [← h]; exact right_any 0 d w hh) (fun w hh => Cvl.date_yes d y m q (can_dok h) hd w hh) w (lens_of hL)

/-- the stamp of a time of a date. -/
def stR (i d u : Int) : Prop := dR i d = true ∧ 0 ≤ u ∧ u ≤ 86400000000
instance (i d u : Int) : Decidable (stR i d u) := by unfold stR; infer_instance
end Go.Proofs.YtmohhbgmbicklaaDoor.Dy
