/- What the law's fixed calls come to. -/
import Derived.Test.YtdkodkkbggdpbaaDoorClkI
namespace Go.Proofs.YtdkodkkbggdpbaaDoor
open Go.RowKit
set_option linter.unusedVariables false

theorem k_text (w : World) (hT : Tab w) : Calls Tryd.prog 12 #[.int .i64 3723000500] w fun e w' => e = .returned (.tuple #[.string ⟨#[48, 49, 58, 48, 50, 58, 48, 51, 46, 48, 48, 48, 53]⟩, .int .i64 0]) ∧ Below w.heap.size w w' := by
  have h := text_in 3723000500 (by decide) w hT
  rw [show textB 3723000500 = ⟨#[48, 49, 58, 48, 50, 58, 48, 51, 46, 48, 48, 48, 53]⟩ by decide +kernel] at h
  exact h
theorem k_read (w : World) : Calls Tryd.prog 9 #[.string ⟨#[50, 52, 58, 48, 48, 58, 48, 49]⟩] w fun e w' => e = .returned (.tuple #[.int .i64 0, .int .i64 10]) ∧ Below w.heap.size w w' := by
  have h := read3 ⟨#[50, 52, 58, 48, 48, 58, 48, 49]⟩ 0 58 58 2 2 2 24 0 1 (show _ = _ by decide +kernel) (by decide) (show _ = _ by decide +kernel) w
  rw [show mkV 24 0 1 0 = 0 by decide +kernel, show mkE 24 0 1 0 = 10 by decide +kernel] at h
  exact h
theorem k_off1 (w : World) (hT : Tab w) : Calls Tryd.prog 13 #[.int .i64 19800] w fun e w' => e = .returned (.tuple #[.string ⟨#[43, 48, 53, 58, 51, 48]⟩, .int .i64 0]) ∧ Below w.heap.size w w' := by
  have h := offset_in 19800 (by decide) (by decide) w hT
  rw [show offB 19800 ((19800 : Int).natAbs : Int) = ⟨#[43, 48, 53, 58, 51, 48]⟩ by decide +kernel] at h
  exact h
theorem k_off2 (w : World) (hT : Tab w) : Calls Tryd.prog 13 #[.int .i64 (-3600)] w fun e w' => e = .returned (.tuple #[.string ⟨#[45, 48, 49]⟩, .int .i64 0]) ∧ Below w.heap.size w w' := by
  have h := offset_in (-3600) (by decide) (by decide) w hT
  rw [show offB (-3600) ((-3600 : Int).natAbs : Int) = ⟨#[45, 48, 49]⟩ by decide +kernel] at h
  exact h
theorem k_long (w : World) (hT : Tab w) : Calls Tryd.prog 40 #[.int .i64 (-90000000000)] w fun e w' => e = .returned (.string ⟨#[45, 50, 53, 58, 48, 48, 58, 48, 48]⟩) ∧ Below w.heap.size w w' := by
  have h := long_any (-90000000000) (by decide) (by decide) w hT
  rw [show longB (-90000000000) = ⟨#[45, 50, 53, 58, 48, 48, 58, 48, 48]⟩ by decide +kernel] at h
  exact h

set_option maxRecDepth 100000 in
set_option maxHeartbeats 2000000 in
theorem known_any (w : World) (hT : Tab w) : Calls Tryd.prog 11 #[] w fun e w' => e = .returned (.bool true) ∧ Below w.heap.size w w' := by
  go_enter Tryd.func11, Tryd.ntmps11
  go_wp2_with fail
  refine (k_text _ hT).mono ?_
  rintro e w1 ⟨rfl, B1⟩
  have T1 := hT.below B1
  go_wp2_with fail
  refine (k_read _).mono ?_
  rintro e w2 ⟨rfl, b2⟩
  have T2 := T1.below b2
  have B2 := B1.trans (b2.mono B1.size)
  clear b2 B1 T1
  go_wp2_with fail
  refine (k_off1 _ T2).mono ?_
  rintro e w3 ⟨rfl, b3⟩
  have T3 := T2.below b3
  have B3 := B2.trans (b3.mono B2.size)
  clear b3 B2 T2
  go_wp2_with fail
  refine (k_off2 _ T3).mono ?_
  rintro e w4 ⟨rfl, b4⟩
  have T4 := T3.below b4
  have B4 := B3.trans (b4.mono B3.size)
  clear b4 B3 T3
  go_wp2_with fail
  refine (k_long _ T4).mono ?_
  rintro e w5 ⟨rfl, b5⟩
  have B5 := B4.trans (b5.mono B4.size)
  clear b5 B4 T4
  go_wp2
  go_ret
  exact ⟨rfl, B5⟩

end Go.Proofs.YtdkodkkbggdpbaaDoor
