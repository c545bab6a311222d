/- Contracts: the reference's Long whole; clock.micros; clock.Read of four runs. -/
import Derived.Test.YtmohhbgmbicklaaDoorDigDq
import Derived.Test.YtmohhbgmbicklaaDoorClkEq
namespace Go.Proofs.YtmohhbgmbicklaaDoor.Clk
open Go.RowKit
set_option linter.unusedVariables false

theorem nil_append (A : ByteArray) : (⟨#[]⟩ : ByteArray) ++ A = A := by apply ByteArray.ext; simp
theorem elong_any (n : Int) (h1 : -9223372036854775808 ≤ n) (h2 : n ≤ 9223372036854775807) (w : World) :
    Calls Tryd.prog 40 #[.int .i64 n] w fun e w' => e = .returned (.string (longB n)) ∧ Below w.heap.size w w' := by
  obtain ⟨u, hu⟩ : ∃ u : Int, u = n.natAbs := ⟨_, rfl⟩
  have u0 : 0 ≤ u := by omega
  have es : u.tdiv 1000000 = u / 1000000 := Int.tdiv_eq_ediv_of_nonneg u0
  have er : u.tmod 1000000 = u % 1000000 := Int.tmod_eq_emod_of_nonneg u0
  have ea : (u / 1000000).tdiv 3600 = u / 3600000000 := by rw [Int.tdiv_eq_ediv_of_nonneg (by omega)]; omega
  have eb : (u / 1000000).tdiv 60 = u / 60000000 := by rw [Int.tdiv_eq_ediv_of_nonneg (by omega)]; omega
  have ec : (u / 60000000).tmod 60 = u / 60000000 % 60 := Int.tmod_eq_emod_of_nonneg (by omega)
  have ed : (u / 1000000).tmod 60 = u / 1000000 % 60 := Int.tmod_eq_emod_of_nonneg (by omega)
  have f1 : u.tdiv 3600000000 = u / 3600000000 := Int.tdiv_eq_ediv_of_nonneg u0
  have f2 : u.tdiv 60000000 = u / 60000000 := Int.tdiv_eq_ediv_of_nonneg u0
  have hl : ∃ G : ByteArray, ((n < 0 ∧ IntKind.u64.wrap (-(IntKind.u64.wrap n)) = u ∧ G = ⟨#[45]⟩) ∨ (0 ≤ n ∧ n = u ∧ G = ⟨#[]⟩)) ∧ longB n = G ++ faceB (u / 3600000000) (u / 60000000 % 60) (u / 1000000 % 60) (u % 1000000) := by
    by_cases h : n < 0
    · refine ⟨⟨#[45]⟩, .inl ⟨h, by rw [IntKind.wrap_u64, IntKind.wrap_u64]; omega, rfl⟩, ?_⟩
      have hn : n = -u := by omega
      unfold longB
      rw [if_pos h, hn, Int.neg_tdiv, Int.neg_tdiv, Int.neg_tdiv, Int.neg_tmod, Int.neg_tmod, Int.neg_tmod, f1, f2, es, er, ec, ed, Int.neg_neg, Int.neg_neg, Int.neg_neg, Int.neg_neg]
    · refine ⟨⟨#[]⟩, .inr ⟨by omega, by omega, rfl⟩, ?_⟩
      have hn : n = u := by omega
      unfold longB
      rw [if_neg h, hn, f1, f2, es, er, ec, ed, nil_append]
  obtain ⟨G, hG, e⟩ := hl
  have R := elong_core n u 0 (u / 1000000) (u % 1000000) (u / 3600000000) (u / 60000000) (u / 60000000 % 60) (u / 1000000 % 60) G _ _ _ _ (twoB_size (n := u / 3600000000) (by omega) (by omega)) (twoB_size (n := u / 60000000 % 60) (by omega) (by omega)) (twoB_size (n := u / 1000000 % 60) (by omega) (by omega)) (fracB_size (u % 1000000)) hG u0 (by omega) es (by omega) (by omega) er (by omega) (by omega) ea eb ec ed (by omega) (by omega) (by omega) (by omega) (etwo_any _ (by omega) (by omega)) (etwo_any _ (by omega) (by omega)) (etwo_any _ (by omega) (by omega)) (efrac_any _) w
  rw [e]
  unfold faceB
  rw [← ByteArray.append_assoc, ← ByteArray.append_assoc, ← ByteArray.append_assoc, ← ByteArray.append_assoc, ← ByteArray.append_assoc]
  exact R

end Go.Proofs.YtmohhbgmbicklaaDoor.Clk
