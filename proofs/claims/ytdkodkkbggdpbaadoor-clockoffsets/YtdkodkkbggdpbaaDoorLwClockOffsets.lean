/- The walk of ClockOffsets. -/
import Derived.Test.YtdkodkkbggdpbaaDoorOffD
namespace Go.Proofs.YtdkodkkbggdpbaaDoor
open Go.RowKit
set_option linter.unusedVariables false

set_option maxRecDepth 100000 in
set_option maxHeartbeats 8000000 in
theorem core_ClockOffsets_out (sec : Int) (s : ByteArray) (V E : Int)
    (C1 : Hid (∀ w : World, Calls Tryd.prog 13 #[.int .i64 sec] w fun e w' => e = .returned (.tuple #[.string ⟨#[]⟩, .int .i64 10]) ∧ Below w.heap.size w w'))
    (C2 : Hid (∀ w : World, Calls Tryd.prog 14 #[.int .i64 sec] w fun e w' => e = .returned (.tuple #[.string ⟨#[]⟩, .int .i64 10]) ∧ Below w.heap.size w w'))
    (C3 : Hid (∀ w : World, Calls Tryd.prog 15 #[.string s] w fun e w' => e = .returned (.tuple #[.int .i64 V, .int .i64 E]) ∧ Below w.heap.size w w'))
    (C4 : Hid (∀ w : World, Calls Tryd.prog 16 #[.string s] w fun e w' => e = .returned (.tuple #[.int .i64 V, .int .i64 E]) ∧ Below w.heap.size w w'))
    (KN : Hid (∀ w : World, Tab w → Calls Tryd.prog 11 #[] w fun e w' => e = .returned (.bool true) ∧ Below w.heap.size w w'))
    (w : World) (hT : Hid (Tab w)) :
    Calls Tryd.prog 4 #[.int .i64 sec, .string s] w fun e w' => e = .returned (.bool true) ∧ Below w.heap.size w w' := by
  have B0 : Hid (Below w.heap.size w w) := Below.refl _ _
  have T0 := hT
  go_enter Tryd.func4, Tryd.ntmps4
  go_wp2_with fail
  refine (C1.out _).mono ?_
  rintro e w1 ⟨rfl, hb⟩
  have B1 : Hid (Below w.heap.size w w1) := B0.out.trans (hb.mono B0.out.size)
  have T1 : Hid (Tab w1) := T0.out.below hb
  clear hb B0 T0
  go_wp2_with fail
  refine (C2.out _).mono ?_
  rintro e w2 ⟨rfl, hb⟩
  have B2 : Hid (Below w.heap.size w w2) := B1.out.trans (hb.mono B1.out.size)
  have T2 : Hid (Tab w2) := T1.out.below hb
  clear hb B1 T1
  go_wp2_with fail
  refine (C3.out _).mono ?_
  rintro e w3 ⟨rfl, hb⟩
  have B3 : Hid (Below w.heap.size w w3) := B2.out.trans (hb.mono B2.out.size)
  have T3 : Hid (Tab w3) := T2.out.below hb
  clear hb B2 T2
  go_wp2_with fail
  refine (C4.out _).mono ?_
  rintro e w4 ⟨rfl, hb⟩
  have B4 : Hid (Below w.heap.size w w4) := B3.out.trans (hb.mono B3.out.size)
  have T4 : Hid (Tab w4) := T3.out.below hb
  clear hb B3 T3
  go_wp2_with fail
  refine (KN.out _ T4.out).mono ?_
  rintro e w5 ⟨rfl, hb⟩
  have B5 : Hid (Below w.heap.size w w5) := B4.out.trans (hb.mono B4.out.size)
  have T5 : Hid (Tab w5) := T4.out.below hb
  clear hb B4 T4
  go_wp2
  go_ret
  exact ⟨rfl, B5.out⟩

set_option maxRecDepth 100000 in
set_option maxHeartbeats 8000000 in
theorem core_ClockOffsets_in (sec : Int) (s : ByteArray) (V E : Int) (A : ByteArray)
    (C1 : Hid (∀ w : World, Tab w → Calls Tryd.prog 13 #[.int .i64 sec] w fun e w' => e = .returned (.tuple #[.string A, .int .i64 0]) ∧ Below w.heap.size w w'))
    (C2 : Hid (∀ w : World, Calls Tryd.prog 14 #[.int .i64 sec] w fun e w' => e = .returned (.tuple #[.string A, .int .i64 0]) ∧ Below w.heap.size w w'))
    (C3 : Hid (∀ w : World, Calls Tryd.prog 15 #[.string s] w fun e w' => e = .returned (.tuple #[.int .i64 V, .int .i64 E]) ∧ Below w.heap.size w w'))
    (C4 : Hid (∀ w : World, Calls Tryd.prog 16 #[.string s] w fun e w' => e = .returned (.tuple #[.int .i64 V, .int .i64 E]) ∧ Below w.heap.size w w'))
    (C5 : Hid (∀ w : World, Calls Tryd.prog 15 #[.string A] w fun e w' => e = .returned (.tuple #[.int .i64 sec, .int .i64 0]) ∧ Below w.heap.size w w'))
    (KN : Hid (∀ w : World, Tab w → Calls Tryd.prog 11 #[] w fun e w' => e = .returned (.bool true) ∧ Below w.heap.size w w'))
    (w : World) (hT : Hid (Tab w)) :
    Calls Tryd.prog 4 #[.int .i64 sec, .string s] w fun e w' => e = .returned (.bool true) ∧ Below w.heap.size w w' := by
  have B0 : Hid (Below w.heap.size w w) := Below.refl _ _
  have T0 := hT
  go_enter Tryd.func4, Tryd.ntmps4
  go_wp2_with fail
  refine (C1.out _ T0.out).mono ?_
  rintro e w1 ⟨rfl, hb⟩
  have B1 : Hid (Below w.heap.size w w1) := B0.out.trans (hb.mono B0.out.size)
  have T1 : Hid (Tab w1) := T0.out.below hb
  clear hb B0 T0
  go_wp2_with fail
  refine (C2.out _).mono ?_
  rintro e w2 ⟨rfl, hb⟩
  have B2 : Hid (Below w.heap.size w w2) := B1.out.trans (hb.mono B1.out.size)
  have T2 : Hid (Tab w2) := T1.out.below hb
  clear hb B1 T1
  go_wp2_with fail
  refine (C3.out _).mono ?_
  rintro e w3 ⟨rfl, hb⟩
  have B3 : Hid (Below w.heap.size w w3) := B2.out.trans (hb.mono B2.out.size)
  have T3 : Hid (Tab w3) := T2.out.below hb
  clear hb B2 T2
  go_wp2_with fail
  refine (C4.out _).mono ?_
  rintro e w4 ⟨rfl, hb⟩
  have B4 : Hid (Below w.heap.size w w4) := B3.out.trans (hb.mono B3.out.size)
  have T4 : Hid (Tab w4) := T3.out.below hb
  clear hb B3 T3
  go_wp2_with fail
  refine (C5.out _).mono ?_
  rintro e w5 ⟨rfl, hb⟩
  have B5 : Hid (Below w.heap.size w w5) := B4.out.trans (hb.mono B4.out.size)
  have T5 : Hid (Tab w5) := T4.out.below hb
  clear hb B4 T4
  go_wp2_with fail
  refine (KN.out _ T5.out).mono ?_
  rintro e w6 ⟨rfl, hb⟩
  have B6 : Hid (Below w.heap.size w w6) := B5.out.trans (hb.mono B5.out.size)
  have T6 : Hid (Tab w6) := T5.out.below hb
  clear hb B5 T5
  go_wp2
  go_ret
  exact ⟨rfl, B6.out⟩

end Go.Proofs.YtdkodkkbggdpbaaDoor
