/- The walk of WhenDays. -/
import Derived.Test.YtdkodkkbggdpbabDoorWhnK
namespace Go.Proofs.YtdkodkkbggdpbabDoor
open Go.RowKit
set_option linter.unusedVariables false

set_option maxRecDepth 100000 in
set_option maxHeartbeats 8000000 in
theorem core_WhenDays (y m k d n V E : Int)
    (GV : Hid (∀ w : World, Calls Tryd.prog 22 #[.agg #[.int .i64 k, .int .i64 d, .int .i64 n]] w fun e w' => e = .returned (.agg #[.int .i64 k, .int .i64 d, .int .i64 n]) ∧ Below w.heap.size w w'))
    (C1 : Hid (∀ w : World, Cvl.Lens w → Calls Tryd.prog 21 #[.int .i64 y, .int .i64 m, .agg #[.int .i64 k, .int .i64 d, .int .i64 n]] w fun e w' => e = .returned (.tuple #[.int .i64 V, .int .i64 E]) ∧ Below w.heap.size w w'))
    (C2 : Hid (∀ w : World, Calls Tryd.prog 23 #[.int .i64 y, .int .i64 m, .agg #[.int .i64 k, .int .i64 d, .int .i64 n]] w fun e w' => e = .returned (.tuple #[.int .i64 V, .int .i64 E]) ∧ Below w.heap.size w w'))
    (KN : Hid (∀ w : World, Cvl.Lens w → Calls Tryd.prog 20 #[] w fun e w' => e = .returned (.bool true) ∧ Below w.heap.size w w'))
    (w : World) (hL : Hid (Cvl.Lens w)) :
    Calls Tryd.prog 6 #[.int .i64 y, .int .i64 m, .agg #[.int .i64 k, .int .i64 d, .int .i64 n]] w fun e w' => e = .returned (.bool true) ∧ Below w.heap.size w w' := by
  have S0 : Hid (OnS w w.heap.size k d n (w.alloc (.cells #[.int .i64 k, .int .i64 d, .int .i64 n] 35))) := OnS.new w _ _ _ _
  have LL : Hid (∀ W : World, Below w.heap.size w W → Cvl.Lens W) := fun W hb => Lens_below hL.out hb (Lens_lt hL.out)
  clear hL
  go_enter Tryd.func6, Tryd.ntmps6
  go_wp2_with fail
  refine (GV.out _).mono ?_
  rintro e w1 ⟨rfl, hb⟩
  have S1 : Hid (OnS w w.heap.size k d n w1) := S0.out.below hb
  clear hb S0
  go_wp2_with fail
  refine (C1.out _ (LL.out _ S1.out.2.2.2.2)).mono ?_
  rintro e w2 ⟨rfl, hb⟩
  have S2 : Hid (OnS w w.heap.size k d n w2) := S1.out.below hb
  clear hb S1
  obtain ⟨o1, o2, o3, o4, o5⟩ := id S2.out
  clear o5
  go_wp2_with fail
  refine (C2.out _).mono ?_
  rintro e w3 ⟨rfl, hb⟩
  have S3 : Hid (OnS w w.heap.size k d n w3) := S2.out.below hb
  clear hb S2 o1 o2 o3 o4
  go_wp2_with fail
  refine (KN.out _ (LL.out _ S3.out.2.2.2.2)).mono ?_
  rintro e w4 ⟨rfl, hb⟩
  have S4 : Hid (OnS w w.heap.size k d n w4) := S3.out.below hb
  clear hb S3
  go_wp2
  go_ret
  exact ⟨rfl, S4.out.2.2.2.2⟩

end Go.Proofs.YtdkodkkbggdpbabDoor
