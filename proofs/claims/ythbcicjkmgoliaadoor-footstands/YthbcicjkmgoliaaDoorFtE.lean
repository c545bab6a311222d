/- when.TextAt whole. -/
import Derived.Test.YthbcicjkmgoliaaDoorWhnN
namespace Go.Proofs.YthbcicjkmgoliaaDoor
open Go.RowKit
set_option linter.unusedVariables false

theorem tat_yes (s k : Int) (h : okAt s k) (w : World) (hT : Clk.Tab w) :
    Calls Tryd.prog 38 #[.agg #[.int .i64 s, .int .u8 k]] w fun e w' => e = .returned (.tuple #[.string (atT s k), .int .i64 0]) ∧ Below w.heap.size w w' := by
  obtain ⟨s0, s1, hk⟩ := h
  have PA : Hid (∀ w : World, Calls Tryd.prog 52 #[.int .i64 (s * 1000000)] w fun e w' => e = .returned (.tuple #[.int .i64 (s / 3600), .int .i64 (s / 60 % 60), .int .i64 (s % 60), .int .i64 0, .int .i64 0]) ∧ w' = w) := fun w => by
    have t0 : 0 ≤ s * 1000000 := by omega
    refine Clk.parts_in (s * 1000000) (s / 3600) (s / 60 % 60) (s % 60) 0 (s / 60) s t0 (by omega) ?_ ?_ ?_ ?_ ?_ ?_ (by omega) (by omega) (by omega) (by omega) s0 (by omega) w
    · rw [Int.tdiv_eq_ediv_of_nonneg t0]; omega
    · rw [Int.tdiv_eq_ediv_of_nonneg t0]; omega
    · rw [Int.tmod_eq_emod_of_nonneg (by omega)]
    · rw [Int.tdiv_eq_ediv_of_nonneg t0]; omega
    · rw [Int.tmod_eq_emod_of_nonneg s0]
    · rw [Int.tmod_eq_emod_of_nonneg t0]; omega
  have FI := format_small (s / 3600) (by omega) (by omega)
  have T1 := Clk.two_any (s / 60 % 60) (by omega) (by omega)
  have T2 := Clk.two_any (s % 60) (by omega) (by omega)
  have z1 := digB_size (s / 3600) (by omega) (by omega)
  have z2 := Clk.twoB_size (n := s / 60 % 60) (by omega) (by omega)
  have z3 := Clk.twoB_size (n := s % 60) (by omega) (by omega)
  unfold atT hmsT
  by_cases hz : s % 60 = 0
  · simp only [if_pos hz]
    rcases hk with rfl | rfl | rfl
    · exact tat_wz s _ _ _ _ _ _ _ z1 z2 z3 s0 s1 hz PA FI T1 w hT
    · exact tat_sz s _ _ _ _ _ _ _ z1 z2 z3 s0 s1 hz PA FI T1 w hT
    · exact tat_uz s _ _ _ _ _ _ _ z1 z2 z3 s0 s1 hz PA FI T1 w hT
  · simp only [if_neg hz]
    rcases hk with rfl | rfl | rfl
    · exact tat_wn s _ _ _ _ _ _ _ z1 z2 z3 s0 s1 hz PA FI T1 T2 w hT
    · exact tat_sn s _ _ _ _ _ _ _ z1 z2 z3 s0 s1 hz PA FI T1 T2 w hT
    · exact tat_un s _ _ _ _ _ _ _ z1 z2 z3 s0 s1 hz PA FI T1 T2 w hT

theorem tat_no (s k : Int) (h : ¬ okAt s k) (w : World) (hT : Clk.Tab w) :
    Calls Tryd.prog 38 #[.agg #[.int .i64 s, .int .u8 k]] w fun e w' => e = .returned (.tuple #[.string ⟨#[]⟩, .int .i64 1]) ∧ Below w.heap.size w w' := by
  by_cases a : s < 0
  · exact tat_lo s k a w
  · by_cases b : 86400 < s
    · exact tat_hi s k b w
    · have s0 : 0 ≤ s := by omega
      have s1 : s ≤ 86400 := by omega
      have hk : k ≠ 119 ∧ k ≠ 115 ∧ k ≠ 117 := by unfold okAt at h; omega
      have PA : Hid (∀ w : World, Calls Tryd.prog 52 #[.int .i64 (s * 1000000)] w fun e w' => e = .returned (.tuple #[.int .i64 (s / 3600), .int .i64 (s / 60 % 60), .int .i64 (s % 60), .int .i64 0, .int .i64 0]) ∧ w' = w) := fun w => by
        have t0 : 0 ≤ s * 1000000 := by omega
        refine Clk.parts_in (s * 1000000) (s / 3600) (s / 60 % 60) (s % 60) 0 (s / 60) s t0 (by omega) ?_ ?_ ?_ ?_ ?_ ?_ (by omega) (by omega) (by omega) (by omega) s0 (by omega) w
        · rw [Int.tdiv_eq_ediv_of_nonneg t0]; omega
        · rw [Int.tdiv_eq_ediv_of_nonneg t0]; omega
        · rw [Int.tmod_eq_emod_of_nonneg (by omega)]
        · rw [Int.tdiv_eq_ediv_of_nonneg t0]; omega
        · rw [Int.tmod_eq_emod_of_nonneg s0]
        · rw [Int.tmod_eq_emod_of_nonneg t0]; omega
      have FI := format_small (s / 3600) (by omega) (by omega)
      have T1 := Clk.two_any (s / 60 % 60) (by omega) (by omega)
      have T2 := Clk.two_any (s % 60) (by omega) (by omega)
      have z1 := digB_size (s / 3600) (by omega) (by omega)
      have z2 := Clk.twoB_size (n := s / 60 % 60) (by omega) (by omega)
      have z3 := Clk.twoB_size (n := s % 60) (by omega) (by omega)
      by_cases hz : s % 60 = 0
      · exact tat_xz s k _ _ _ _ _ _ _ z1 z2 z3 s0 s1 hz hk.1 hk.2.1 hk.2.2 PA FI T1 w hT
      · exact tat_xn s k _ _ _ _ _ _ _ z1 z2 z3 s0 s1 hz hk.1 hk.2.1 hk.2.2 PA FI T1 T2 w hT

end Go.Proofs.YthbcicjkmgoliaaDoor
