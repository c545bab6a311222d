/- The walk of ClockTexts. -/
import Derived.Test.YtlhlanekklonmaaDoorDigF
namespace Go.Proofs.YtlhlanekklonmaaDoor
open Go.RowKit
set_option linter.unusedVariables false

set_option maxRecDepth 100000 in
set_option maxHeartbeats 4000000 in
theorem core_ClockTexts_in (t : Int) (A B C D : ByteArray)
    (HT : (Hid (∀ w : World, Tab w → Calls Tryd.prog 8 #[.int .i64 t] w fun e w' => e = .returned (.tuple #[.string A, .int .i64 0]) ∧ Below w.heap.size w w')))
    (ET : (Hid (∀ w : World, Calls Tryd.prog 9 #[.int .i64 t] w fun e w' => e = .returned (.tuple #[.string A, .int .i64 0]) ∧ Below w.heap.size w w')))
    (W1 : (Hid (∀ w : World, Tab w → Calls Tryd.prog 10 #[.int .i64 t] w fun e w' => e = .returned (.string B) ∧ Below w.heap.size w w')))
    (W2 : (Hid (∀ w : World, Calls Tryd.prog 11 #[.int .i64 t] w fun e w' => e = .returned (.string B) ∧ Below w.heap.size w w')))
    (F1 : (Hid (∀ w : World, Tab w → Calls Tryd.prog 12 #[.int .i64 t] w fun e w' => e = .returned (.string C) ∧ Below w.heap.size w w')))
    (F2 : (Hid (∀ w : World, Calls Tryd.prog 13 #[.int .i64 t] w fun e w' => e = .returned (.string C) ∧ Below w.heap.size w w')))
    (L1 : (Hid (∀ w : World, Tab w → Calls Tryd.prog 14 #[.int .i64 t] w fun e w' => e = .returned (.string D) ∧ Below w.heap.size w w')))
    (L2 : (Hid (∀ w : World, Calls Tryd.prog 15 #[.int .i64 t] w fun e w' => e = .returned (.string D) ∧ Below w.heap.size w w')))
    (RB : (Hid (∀ w : World, Calls Tryd.prog 17 #[.string A] w fun e w' => e = .returned (.tuple #[.int .i64 t, .int .i64 0]) ∧ Below w.heap.size w w')))
    (KN : (Hid (∀ w : World, Tab w → Calls Tryd.prog 16 #[] w fun e w' => e = .returned (.bool true) ∧ Below w.heap.size w w')))
    (w : World) (hT : Hid (Tab w)) :
    Calls Tryd.prog 3 #[.int .i64 t] w fun e w' => e = .returned (.bool true) ∧ Below w.heap.size w w' := by
  have B0 : Hid (Below w.heap.size w w) := Below.refl _ _
  have T0 := hT
  go_enter Tryd.func3, Tryd.ntmps3
  go_wp2_with fail
  refine (HT.out _ T0.out).mono ?_
  rintro e w1 ⟨rfl, hb⟩
  have B1 : Hid (Below w.heap.size w w1) := B0.out.trans (hb.mono B0.out.size)
  have T1 : Hid (Tab w1) := T0.out.below hb
  clear hb B0 T0
  go_wp2_with fail
  refine (ET.out _).mono ?_
  rintro e w2 ⟨rfl, hb⟩
  have B2 : Hid (Below w.heap.size w w2) := B1.out.trans (hb.mono B1.out.size)
  have T2 : Hid (Tab w2) := T1.out.below hb
  clear hb B1 T1
  go_wp2_with fail
  refine (W1.out _ T2.out).mono ?_
  rintro e w3 ⟨rfl, hb⟩
  have B3 : Hid (Below w.heap.size w w3) := B2.out.trans (hb.mono B2.out.size)
  have T3 : Hid (Tab w3) := T2.out.below hb
  clear hb B2 T2
  go_wp2_with fail
  refine (W2.out _).mono ?_
  rintro e w4 ⟨rfl, hb⟩
  have B4 : Hid (Below w.heap.size w w4) := B3.out.trans (hb.mono B3.out.size)
  have T4 : Hid (Tab w4) := T3.out.below hb
  clear hb B3 T3
  go_wp2_with fail
  refine (F1.out _ T4.out).mono ?_
  rintro e w5 ⟨rfl, hb⟩
  have B5 : Hid (Below w.heap.size w w5) := B4.out.trans (hb.mono B4.out.size)
  have T5 : Hid (Tab w5) := T4.out.below hb
  clear hb B4 T4
  go_wp2_with fail
  refine (F2.out _).mono ?_
  rintro e w6 ⟨rfl, hb⟩
  have B6 : Hid (Below w.heap.size w w6) := B5.out.trans (hb.mono B5.out.size)
  have T6 : Hid (Tab w6) := T5.out.below hb
  clear hb B5 T5
  go_wp2_with fail
  refine (L1.out _ T6.out).mono ?_
  rintro e w7 ⟨rfl, hb⟩
  have B7 : Hid (Below w.heap.size w w7) := B6.out.trans (hb.mono B6.out.size)
  have T7 : Hid (Tab w7) := T6.out.below hb
  clear hb B6 T6
  go_wp2_with fail
  refine (L2.out _).mono ?_
  rintro e w8 ⟨rfl, hb⟩
  have B8 : Hid (Below w.heap.size w w8) := B7.out.trans (hb.mono B7.out.size)
  have T8 : Hid (Tab w8) := T7.out.below hb
  clear hb B7 T7
  go_wp2_with fail
  refine (RB.out _).mono ?_
  rintro e w9 ⟨rfl, hb⟩
  have B9 : Hid (Below w.heap.size w w9) := B8.out.trans (hb.mono B8.out.size)
  have T9 : Hid (Tab w9) := T8.out.below hb
  clear hb B8 T8
  go_wp2_with fail
  refine (KN.out _ T9.out).mono ?_
  rintro e w10 ⟨rfl, hb⟩
  have B10 : Hid (Below w.heap.size w w10) := B9.out.trans (hb.mono B9.out.size)
  have T10 : Hid (Tab w10) := T9.out.below hb
  clear hb B9 T9
  go_wp2
  go_ret
  exact ⟨rfl, B10.out⟩

set_option maxRecDepth 100000 in
set_option maxHeartbeats 4000000 in
theorem core_ClockTexts_out (t : Int) (A B C D : ByteArray)
    (HT : (Hid (∀ w : World, Tab w → Calls Tryd.prog 8 #[.int .i64 t] w fun e w' => e = .returned (.tuple #[.string A, .int .i64 10]) ∧ Below w.heap.size w w')))
    (ET : (Hid (∀ w : World, Calls Tryd.prog 9 #[.int .i64 t] w fun e w' => e = .returned (.tuple #[.string A, .int .i64 10]) ∧ Below w.heap.size w w')))
    (W1 : (Hid (∀ w : World, Tab w → Calls Tryd.prog 10 #[.int .i64 t] w fun e w' => e = .returned (.string B) ∧ Below w.heap.size w w')))
    (W2 : (Hid (∀ w : World, Calls Tryd.prog 11 #[.int .i64 t] w fun e w' => e = .returned (.string B) ∧ Below w.heap.size w w')))
    (F1 : (Hid (∀ w : World, Tab w → Calls Tryd.prog 12 #[.int .i64 t] w fun e w' => e = .returned (.string C) ∧ Below w.heap.size w w')))
    (F2 : (Hid (∀ w : World, Calls Tryd.prog 13 #[.int .i64 t] w fun e w' => e = .returned (.string C) ∧ Below w.heap.size w w')))
    (L1 : (Hid (∀ w : World, Tab w → Calls Tryd.prog 14 #[.int .i64 t] w fun e w' => e = .returned (.string D) ∧ Below w.heap.size w w')))
    (L2 : (Hid (∀ w : World, Calls Tryd.prog 15 #[.int .i64 t] w fun e w' => e = .returned (.string D) ∧ Below w.heap.size w w')))
    (KN : (Hid (∀ w : World, Tab w → Calls Tryd.prog 16 #[] w fun e w' => e = .returned (.bool true) ∧ Below w.heap.size w w')))
    (w : World) (hT : Hid (Tab w)) :
    Calls Tryd.prog 3 #[.int .i64 t] w fun e w' => e = .returned (.bool true) ∧ Below w.heap.size w w' := by
  have B0 : Hid (Below w.heap.size w w) := Below.refl _ _
  have T0 := hT
  go_enter Tryd.func3, Tryd.ntmps3
  go_wp2_with fail
  refine (HT.out _ T0.out).mono ?_
  rintro e w1 ⟨rfl, hb⟩
  have B1 : Hid (Below w.heap.size w w1) := B0.out.trans (hb.mono B0.out.size)
  have T1 : Hid (Tab w1) := T0.out.below hb
  clear hb B0 T0
  go_wp2_with fail
  refine (ET.out _).mono ?_
  rintro e w2 ⟨rfl, hb⟩
  have B2 : Hid (Below w.heap.size w w2) := B1.out.trans (hb.mono B1.out.size)
  have T2 : Hid (Tab w2) := T1.out.below hb
  clear hb B1 T1
  go_wp2_with fail
  refine (W1.out _ T2.out).mono ?_
  rintro e w3 ⟨rfl, hb⟩
  have B3 : Hid (Below w.heap.size w w3) := B2.out.trans (hb.mono B2.out.size)
  have T3 : Hid (Tab w3) := T2.out.below hb
  clear hb B2 T2
  go_wp2_with fail
  refine (W2.out _).mono ?_
  rintro e w4 ⟨rfl, hb⟩
  have B4 : Hid (Below w.heap.size w w4) := B3.out.trans (hb.mono B3.out.size)
  have T4 : Hid (Tab w4) := T3.out.below hb
  clear hb B3 T3
  go_wp2_with fail
  refine (F1.out _ T4.out).mono ?_
  rintro e w5 ⟨rfl, hb⟩
  have B5 : Hid (Below w.heap.size w w5) := B4.out.trans (hb.mono B4.out.size)
  have T5 : Hid (Tab w5) := T4.out.below hb
  clear hb B4 T4
  go_wp2_with fail
  refine (F2.out _).mono ?_
  rintro e w6 ⟨rfl, hb⟩
  have B6 : Hid (Below w.heap.size w w6) := B5.out.trans (hb.mono B5.out.size)
  have T6 : Hid (Tab w6) := T5.out.below hb
  clear hb B5 T5
  go_wp2_with fail
  refine (L1.out _ T6.out).mono ?_
  rintro e w7 ⟨rfl, hb⟩
  have B7 : Hid (Below w.heap.size w w7) := B6.out.trans (hb.mono B6.out.size)
  have T7 : Hid (Tab w7) := T6.out.below hb
  clear hb B6 T6
  go_wp2_with fail
  refine (L2.out _).mono ?_
  rintro e w8 ⟨rfl, hb⟩
  have B8 : Hid (Below w.heap.size w w8) := B7.out.trans (hb.mono B7.out.size)
  have T8 : Hid (Tab w8) := T7.out.below hb
  clear hb B7 T7
  go_wp2_with fail
  refine (KN.out _ T8.out).mono ?_
  rintro e w9 ⟨rfl, hb⟩
  have B9 : Hid (Below w.heap.size w w9) := B8.out.trans (hb.mono B8.out.size)
  have T9 : Hid (Tab w9) := T8.out.below hb
  clear hb B8 T8
  go_wp2
  go_ret
  exact ⟨rfl, B9.out⟩

end Go.Proofs.YtlhlanekklonmaaDoor
