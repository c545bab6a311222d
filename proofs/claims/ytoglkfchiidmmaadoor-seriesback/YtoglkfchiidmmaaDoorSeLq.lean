/- series: the reference's Count whole, both Ints whole; SeriesInts over its callees. -/
import Derived.Test.YtoglkfchiidmmaaDoorSeKq
namespace Go.Proofs.YtoglkfchiidmmaaDoor
open Go.RowKit
set_option linter.unusedVariables false

theorem all_cnt {a b s : Int} (h : allB a b s = true) : cntI a b s = 18446744073709551616 := by
  unfold allB allU allD at h
  simp only [Bool.or_eq_true, Bool.and_eq_true, decide_eq_true_eq] at h
  rcases h with ⟨rfl, rfl, rfl⟩ | ⟨rfl, rfl, rfl⟩ <;> decide +kernel
theorem all_not {a b s : Int} (h : cntI a b s < 18446744073709551616) : allB a b s = false := by
  cases e : allB a b s
  · rfl
  · have := all_cnt e; omega
theorem ct_of {a b s : Int} (h0 : s ≠ 0) (h : cntI a b s < 18446744073709551616) : ctV a b s = cntI a b s ∧ ctE a b s = 0 := by
  unfold ctV ctE
  rw [if_neg h0, if_neg h0, all_not h]
  exact ⟨rfl, rfl⟩
theorem ct_all {a b s : Int} (h0 : s ≠ 0) (h : ¬ cntI a b s < 18446744073709551616) (a1 : -9223372036854775808 ≤ a) (a2 : a ≤ 9223372036854775807) (b1 : -9223372036854775808 ≤ b) (b2 : b ≤ 9223372036854775807) : ctV a b s = 0 ∧ ctE a b s = 10 := by
  unfold ctV ctE
  rw [if_neg h0, if_neg h0]
  cases e : allB a b s
  · exact absurd (cnt_lt h0 e a1 a2 b1 b2) h
  · exact ⟨rfl, rfl⟩

/-- the numbers lie between both ends, and the next one beyond. -/
theorem row_in {a b s : Int} (hs : 0 < s) (i : Nat) (h : (i : Int) < cntI a b s) : a ≤ a + (i : Int) * s ∧ a + (i : Int) * s ≤ b := by
  have g : ¬ b < a := fun g => by have e : cntI a b s = 0 := by unfold cntI; rw [if_pos hs, if_pos g]
                                  omega
  rw [cnt_up hs g] at h
  have h1 : (i : Int) * s ≤ (b - a) / s * s := Int.mul_le_mul_of_nonneg_right (by omega) (by omega)
  have h2 : (b - a) / s * s ≤ b - a := Int.ediv_mul_le _ (by omega)
  have h3 : 0 ≤ (i : Int) * s := Int.mul_nonneg (by omega) (by omega)
  omega
theorem row_inD {a b s : Int} (hs : s < 0) (i : Nat) (h : (i : Int) < cntI a b s) : a + (i : Int) * s ≤ a ∧ b ≤ a + (i : Int) * s := by
  have g : ¬ a < b := fun g => by have e : cntI a b s = 0 := by unfold cntI; rw [if_neg (by omega), if_pos g]
                                  omega
  rw [cnt_dn hs g] at h
  have h1 : (i : Int) * (-s) ≤ (a - b) / (-s) * (-s) := Int.mul_le_mul_of_nonneg_right (by omega) (by omega)
  have h2 : (a - b) / (-s) * (-s) ≤ a - b := Int.ediv_mul_le _ (by omega)
  have h3 : 0 ≤ (i : Int) * (-s) := Int.mul_nonneg (by omega) (by omega)
  rw [Int.mul_neg] at h1 h3
  omega
theorem row_i64 {a b s : Int} (h0 : s ≠ 0) (a1 : -9223372036854775808 ≤ a) (a2 : a ≤ 9223372036854775807) (b1 : -9223372036854775808 ≤ b) (b2 : b ≤ 9223372036854775807) (i : Nat) (h : (i : Int) < cntI a b s) : -9223372036854775808 ≤ a + (i : Int) * s ∧ a + (i : Int) * s ≤ 9223372036854775807 := by
  by_cases hs : 0 < s
  · have := row_in hs i h; omega
  · have := row_inD (show s < 0 by omega) i h; omega

/-- what Ints answers. -/
def inE (a b s m : Int) : Int := if mostB m = false then 1 else if s = 0 then 11 else if m < cntI a b s then 14 else 0
def inL (a b s m : Int) : List Int := if inE a b s m = 0 then arI a s (cntI a b s).toNat else []

theorem ints_any (a b s m : Int) (a1 : -9223372036854775808 ≤ a) (a2 : a ≤ 9223372036854775807) (b1 : -9223372036854775808 ≤ b) (b2 : b ≤ 9223372036854775807) (s1 : -9223372036854775808 ≤ s) (s2 : s ≤ 9223372036854775807) (w : World) :
    Calls Tryd.prog 5 #[.int .i64 a, .int .i64 b, .int .i64 s, .int .i64 m] w fun r w' => ∃ v, r = .returned (.tuple #[v, .int .i64 (inE a b s m)]) ∧ Below w.heap.size w w' ∧ IRow w' v (inL a b s m) := by
  have C := fun w => Count_any a b s a1 a2 b1 b2 s1 s2 w
  have nil : ∀ {e : Int} {r : Ending} {W : World}, inE a b s m = e → e ≠ 0 → r = .returned (.tuple #[.slice none 0 0, .int .i64 e]) ∧ Below w.heap.size w W → ∃ v, r = .returned (.tuple #[v, .int .i64 (inE a b s m)]) ∧ Below w.heap.size w W ∧ IRow W v (inL a b s m) := fun {e r W} h1 h2 h => ⟨_, by rw [h1]; exact h.1, h.2, by unfold inL; rw [if_neg (by rw [h1]; exact h2)]; exact IRow.nil W⟩
  cases hm : mostB m
  · exact (ints_most a b s m hm w).mono fun r W h => nil (by unfold inE; rw [if_pos hm]) (by decide) h
  have hm2 : 0 ≤ m ∧ m ≤ 1000 := by unfold mostB at hm; simpa using hm
  by_cases h0 : s = 0
  · rw [show ctE a b s = 11 by unfold ctE; rw [if_pos h0]] at C
    exact (ints_zero a b s m _ hm C w).mono fun r W h => nil (by unfold inE; rw [if_neg (by rw [hm]; decide), if_pos h0]) (by decide) h
  have bd := cnt_bd (a := a) (b := b) h0 a1 a2 b1 b2
  have hmw : IntKind.u64.wrap m = m := by rw [IntKind.wrap_u64]; omega
  by_cases hc : m < cntI a b s
  · have he : inE a b s m = 14 := by unfold inE; rw [if_neg (by rw [hm]; decide), if_neg h0, if_pos hc]
    by_cases hb : cntI a b s < 18446744073709551616
    · obtain ⟨e1, e2⟩ := ct_of h0 hb
      rw [e1, e2] at C
      exact (ints_rows a b s m _ hm hc hmw C w).mono fun r W h => nil he (by decide) h
    · obtain ⟨e1, e2⟩ := ct_all h0 hb a1 a2 b1 b2
      rw [e1, e2] at C
      exact (ints_all a b s m _ hm C w).mono fun r W h => nil he (by decide) h
  · have he : inE a b s m = 0 := by unfold inE; rw [if_neg (by rw [hm]; decide), if_neg h0, if_neg hc]
    obtain ⟨e1, e2⟩ := ct_of h0 (show cntI a b s < _ by omega)
    rw [e1, e2, show cntI a b s = ((cntI a b s).toNat : Int) by omega] at C
    refine (ints_ok a b s m (cntI a b s).toNat hm (by omega) (by omega) hmw (fun i hi => ?_) (by rw [IntKind.wrap_i64]; omega) C w).mono ?_
    · have := row_i64 h0 a1 a2 b1 b2 i (show (i : Int) < cntI a b s by omega)
      rw [IntKind.wrap_i64]; omega
    · rintro e W ⟨g, rfl, hb, _, hx⟩
      exact ⟨_, by rw [he], hb, by unfold inL; rw [if_pos he]; exact IRow.of_bx hx (arI_len _ _ _)⟩

end Go.Proofs.YtoglkfchiidmmaaDoor
