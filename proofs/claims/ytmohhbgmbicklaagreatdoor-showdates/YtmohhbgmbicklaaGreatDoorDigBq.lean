/- Contracts of the reference's Two, Text and Long, over its Fraction. -/
import Derived.Test.YtmohhbgmbicklaaGreatDoorDigAq
import Derived.Test.YtmohhbgmbicklaaGreatDoorClkEq
namespace Go.Proofs.YtmohhbgmbicklaaGreatDoor.Clk
open Go.RowKit
set_option linter.unusedVariables false

theorem dgB_small {n : Int} (h : n.natAbs < 10) : (dgB n).size = 1 := by
  show (Lib.decDigits n.natAbs).toArray.size = 1
  rw [Lib.decDigits_one h]; rfl
theorem dgB_large {n : Int} (h : 10 ≤ n.natAbs) : ¬ (dgB n).size < 2 := by
  show ¬ (Lib.decDigits n.natAbs).toArray.size < 2
  obtain ⟨c, l, e, _⟩ := digit_head (n.natAbs / 10)
  rw [dec_step h, e]
  simp
theorem itoa_pos {n : Int} (h : ¬ n < 0) : (⟨(Lib.itoa n).toArray⟩ : ByteArray) = dgB n := by
  unfold Lib.itoa dgB
  rw [if_neg h, show n.toNat = n.natAbs by omega]
theorem itoa_below {n : Int} (h : n < 0) : (⟨(Lib.itoa n).toArray⟩ : ByteArray) = ⟨#[45]⟩ ++ dgB n := by
  unfold Lib.itoa dgB
  rw [if_pos h]
  apply ByteArray.ext
  simp

set_option maxRecDepth 100000 in
set_option maxHeartbeats 1000000 in
theorem etwo_a (n : Int) (D : ByteArray) (h0 : 0 ≤ n) (h1 : n < 10) (hD : D.size ≤ 21)
    (H : Hid (∀ w : World, Calls Tryz.prog 45 #[.int .i64 n] w fun e w' => e = .returned (.string D) ∧ Below w.heap.size w w')) (w : World) :
    Calls Tryz.prog 46 #[.int .i64 n] w fun e w' => e = .returned (.string (⟨#[48]⟩ ++ D)) ∧ Below w.heap.size w w' := by
  go_enter Tryz.func46, Tryz.ntmps46
  go_wp2_with fail
  refine (H.out _).mono ?_
  rintro e w1 ⟨rfl, hb⟩
  go_wp2
  go_ret
  exact ⟨rfl, hb⟩

set_option maxRecDepth 100000 in
set_option maxHeartbeats 1000000 in
theorem etwo_b (n m : Int) (D : ByteArray) (h0 : n < 0) (h1 : -10 < n) (hm : -n = m) (hD : D.size ≤ 21)
    (H : Hid (∀ w : World, Calls Tryz.prog 45 #[.int .i64 m] w fun e w' => e = .returned (.string D) ∧ Below w.heap.size w w')) (w : World) :
    Calls Tryz.prog 46 #[.int .i64 n] w fun e w' => e = .returned (.string (⟨#[45, 48]⟩ ++ D)) ∧ Below w.heap.size w w' := by
  subst hm
  have h2 : ¬ 0 ≤ n := by omega
  go_enter Tryz.func46, Tryz.ntmps46
  go_wp2_with fail
  refine (H.out _).mono ?_
  rintro e w1 ⟨rfl, hb⟩
  go_wp2
  go_ret
  exact ⟨rfl, hb⟩

set_option maxRecDepth 100000 in
set_option maxHeartbeats 1000000 in
theorem etwo_c (n : Int) (D : ByteArray) (h0 : 10 ≤ n ∨ n ≤ -10)
    (H : Hid (∀ w : World, Calls Tryz.prog 45 #[.int .i64 n] w fun e w' => e = .returned (.string D) ∧ Below w.heap.size w w')) (w : World) :
    Calls Tryz.prog 46 #[.int .i64 n] w fun e w' => e = .returned (.string D) ∧ Below w.heap.size w w' := by
  rcases h0 with h0 | h0
  · have h1 : 0 ≤ n := by omega
    have h2 : ¬ n < 10 := by omega
    have h3 : ¬ n < 0 := by omega
    go_enter Tryz.func46, Tryz.ntmps46
    go_wp2_with fail
    refine (H.out _).mono ?_
    rintro e w1 ⟨rfl, hb⟩
    go_wp2
    go_ret
    exact ⟨rfl, hb⟩
  · have h1 : ¬ 0 ≤ n := by omega
    have h3 : n < 0 := by omega
    have h4 : ¬ -10 < n := by omega
    go_enter Tryz.func46, Tryz.ntmps46
    go_wp2_with fail
    refine (H.out _).mono ?_
    rintro e w1 ⟨rfl, hb⟩
    go_wp2
    go_ret
    exact ⟨rfl, hb⟩

theorem etwo_any (n : Int) (h1 : -9223372036854775808 ≤ n) (h2 : n ≤ 9223372036854775807) (w : World) :
    Calls Tryz.prog 46 #[.int .i64 n] w fun e w' => e = .returned (.string (twoB n)) ∧ Below w.heap.size w w' := by
  by_cases hs : n.natAbs < 10
  · by_cases h : n < 0
    · have D := digits_any (-n) (by omega) (by omega)
      rw [itoa_pos (by omega)] at D
      have e : twoB n = ⟨#[45, 48]⟩ ++ dgB (-n) := by
        unfold twoB padB
        rw [if_pos h, if_pos (by have := dgB_small hs; omega)]
        unfold dgB
        rw [Int.natAbs_neg]
        apply ByteArray.ext
        simp
      rw [e]
      exact etwo_b n (-n) _ h (by omega) rfl (by have := dgB_size (n := -n) (by omega) (by omega); omega) D w
    · have D := digits_any n h1 h2
      rw [itoa_pos h] at D
      have e : twoB n = ⟨#[48]⟩ ++ dgB n := by
        unfold twoB padB
        rw [if_neg h, if_pos (by have := dgB_small hs; omega)]
      rw [e]
      exact etwo_a n _ (by omega) (by omega) (by have := dgB_size h1 h2; omega) D w
  · have D := digits_any n h1 h2
    have hp : padB (dgB n) = dgB n := if_neg (dgB_large (by omega))
    by_cases h : n < 0
    · rw [itoa_below h] at D
      have e : twoB n = ⟨#[45]⟩ ++ dgB n := by unfold twoB; rw [if_pos h, hp]
      rw [e]
      exact etwo_c n _ (by omega) D w
    · rw [itoa_pos h] at D
      have e : twoB n = dgB n := by unfold twoB; rw [if_neg h, hp]
      rw [e]
      exact etwo_c n _ (by omega) D w

end Go.Proofs.YtmohhbgmbicklaaGreatDoor.Clk
