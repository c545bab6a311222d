/- Contracts of the reference's Text and Long. -/
import Derived.Test.YtmohhbgmbicklaaGreatDoorDigCq
namespace Go.Proofs.YtmohhbgmbicklaaGreatDoor.Clk
open Go.RowKit
set_option linter.unusedVariables false

set_option maxRecDepth 100000 in
set_option maxHeartbeats 2000000 in
theorem etext_core (t h m s us : Int) (A B C F : ByteArray) (a1 : A.size ≤ 21) (b1 : B.size ≤ 21) (c1 : C.size ≤ 21) (f1 : F.size ≤ 7)
    (H0 : Hid (∀ w : World, Calls Tryz.prog 79 #[.int .i64 t] w fun e w' => e = .returned (.tuple #[.int .i64 h, .int .i64 m, .int .i64 s, .int .i64 us, .int .i64 0]) ∧ w' = w))
    (H1 : Hid (∀ w : World, Calls Tryz.prog 46 #[.int .i64 h] w fun e w' => e = .returned (.string A) ∧ Below w.heap.size w w'))
    (H2 : Hid (∀ w : World, Calls Tryz.prog 46 #[.int .i64 m] w fun e w' => e = .returned (.string B) ∧ Below w.heap.size w w'))
    (H3 : Hid (∀ w : World, Calls Tryz.prog 46 #[.int .i64 s] w fun e w' => e = .returned (.string C) ∧ Below w.heap.size w w'))
    (H4 : Hid (∀ w : World, Calls Tryz.prog 80 #[.int .i64 us] w fun e w' => e = .returned (.string F) ∧ Below w.heap.size w w')) (w : World) :
    Calls Tryz.prog 52 #[.int .i64 t] w fun e w' => e = .returned (.tuple #[.string (A ++ ⟨#[58]⟩ ++ B ++ ⟨#[58]⟩ ++ C ++ F), .int .i64 0]) ∧ Below w.heap.size w w' := by
  go_enter Tryz.func52, Tryz.ntmps52
  go_wp2_with fail
  refine (H0.out _).mono ?_
  rintro e w0 ⟨rfl, rfl⟩
  go_wp2_with fail
  refine (H1.out _).mono ?_
  rintro e w1 ⟨rfl, b1'⟩
  go_wp2_with fail
  refine (H2.out _).mono ?_
  rintro e w2 ⟨rfl, b2⟩
  have B2 := b1'.trans (b2.mono b1'.size)
  clear b1' b2
  go_wp2_with fail
  refine (H3.out _).mono ?_
  rintro e w3 ⟨rfl, b3⟩
  have B3 := B2.trans (b3.mono B2.size)
  clear b3 B2
  go_wp2_with fail
  refine (H4.out _).mono ?_
  rintro e w4 ⟨rfl, b4⟩
  have B4 := B3.trans (b4.mono B3.size)
  clear b4 B3
  go_wp2
  go_ret2
  exact ⟨rfl, B4⟩

theorem etext_in (t : Int) (h : isT t) (w : World) :
    Calls Tryz.prog 52 #[.int .i64 t] w fun e w' => e = .returned (.tuple #[.string (textB t), .int .i64 0]) ∧ Below w.heap.size w w' := by
  have P := rparts_any t
  unfold tm tmE at P
  simp only [if_pos h] at P
  obtain ⟨h1, h2⟩ := h
  exact etext_core t _ _ _ _ _ _ _ _ (twoB_size (by omega) (by omega)) (twoB_size (by omega) (by omega)) (twoB_size (by omega) (by omega)) (fracB_size _) P (etwo_any _ (by omega) (by omega)) (etwo_any _ (by omega) (by omega)) (etwo_any _ (by omega) (by omega)) (efrac_any _) w

end Go.Proofs.YtmohhbgmbicklaaGreatDoor.Clk
