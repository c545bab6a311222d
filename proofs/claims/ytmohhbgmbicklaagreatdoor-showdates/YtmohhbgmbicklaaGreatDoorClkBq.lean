/- Contracts of clock.Parts and the reference's Parts: hours, minutes, seconds, microseconds. -/
import Derived.Test.YtmohhbgmbicklaaGreatDoorClkAq
namespace Go.Proofs.YtmohhbgmbicklaaGreatDoor.Clk
open Go.RowKit
set_option linter.unusedVariables false

set_option maxHeartbeats 1000000 in
theorem parts_out (t : Int) (h : t < 0 ∨ 86400000000 < t) (w : World) :
    Calls Tryz.prog 75 #[.int .i64 t] w fun e w' => e = .returned (.tuple #[.int .i64 0, .int .i64 0, .int .i64 0, .int .i64 0, .int .i64 10]) ∧ w' = w := by
  rcases h with h | h
  · go_enter Tryz.func75, Tryz.ntmps75
    go_wp2
    exact bodyPost_ret (v := .tuple #[.int .i64 0, .int .i64 0, .int .i64 0, .int .i64 0, .int .i64 10]) (by simp [results, Tryz.results75, go_sem]) rfl ⟨rfl, rfl⟩
  · have h2 : ¬ t < 0 := by omega
    go_enter Tryz.func75, Tryz.ntmps75
    go_wp2
    exact bodyPost_ret (v := .tuple #[.int .i64 0, .int .i64 0, .int .i64 0, .int .i64 0, .int .i64 10]) (by simp [results, Tryz.results75, go_sem]) rfl ⟨rfl, rfl⟩

set_option maxHeartbeats 1000000 in
theorem parts_in (t H M S U a b : Int) (h1 : 0 ≤ t) (h2 : t ≤ 86400000000) (e1 : t.tdiv 3600000000 = H) (e2 : t.tdiv 60000000 = a) (e3 : a.tmod 60 = M) (e4 : t.tdiv 1000000 = b) (e5 : b.tmod 60 = S) (e6 : t.tmod 1000000 = U)
    (k1 : 0 ≤ H) (k2 : H ≤ 24) (k3 : 0 ≤ a) (k4 : a ≤ 1440) (k5 : 0 ≤ b) (k6 : b ≤ 86400) (w : World) :
    Calls Tryz.prog 75 #[.int .i64 t] w fun e w' => e = .returned (.tuple #[.int .i64 H, .int .i64 M, .int .i64 S, .int .i64 U, .int .i64 0]) ∧ w' = w := by
  have h3 : ¬ t < 0 := by omega
  have h4 : ¬ 86400000000 < t := by omega
  go_enter Tryz.func75, Tryz.ntmps75
  go_wp2
  exact bodyPost_ret (v := .tuple #[.int .i64 H, .int .i64 M, .int .i64 S, .int .i64 U, .int .i64 0]) (by simp [results, Tryz.results75, go_sem]) rfl ⟨rfl, rfl⟩

set_option maxHeartbeats 1000000 in
theorem rparts_out (t : Int) (h : t < 0 ∨ 86400000000 < t) (w : World) :
    Calls Tryz.prog 79 #[.int .i64 t] w fun e w' => e = .returned (.tuple #[.int .i64 0, .int .i64 0, .int .i64 0, .int .i64 0, .int .i64 10]) ∧ w' = w := by
  rcases h with h | h
  · go_enter Tryz.func79, Tryz.ntmps79
    go_wp2
    exact bodyPost_ret (v := .tuple #[.int .i64 0, .int .i64 0, .int .i64 0, .int .i64 0, .int .i64 10]) (by simp [results, Tryz.results79, go_sem]) rfl ⟨rfl, rfl⟩
  · have h2 : ¬ t < 0 := by omega
    go_enter Tryz.func79, Tryz.ntmps79
    go_wp2
    exact bodyPost_ret (v := .tuple #[.int .i64 0, .int .i64 0, .int .i64 0, .int .i64 0, .int .i64 10]) (by simp [results, Tryz.results79, go_sem]) rfl ⟨rfl, rfl⟩

set_option maxHeartbeats 1000000 in
theorem rparts_in (t H M S U a b : Int) (h1 : 0 ≤ t) (h2 : t ≤ 86400000000) (e1 : b.tdiv 3600 = H) (e2 : b.tdiv 60 = a) (e3 : a.tmod 60 = M) (e4 : t.tdiv 1000000 = b) (e5 : b.tmod 60 = S) (e6 : t.tmod 1000000 = U)
    (k1 : 0 ≤ H) (k2 : H ≤ 24) (k3 : 0 ≤ a) (k4 : a ≤ 1440) (k5 : 0 ≤ b) (k6 : b ≤ 86400) (w : World) :
    Calls Tryz.prog 79 #[.int .i64 t] w fun e w' => e = .returned (.tuple #[.int .i64 H, .int .i64 M, .int .i64 S, .int .i64 U, .int .i64 0]) ∧ w' = w := by
  have h3 : ¬ t < 0 := by omega
  have h4 : ¬ 86400000000 < t := by omega
  go_enter Tryz.func79, Tryz.ntmps79
  go_wp2
  exact bodyPost_ret (v := .tuple #[.int .i64 H, .int .i64 M, .int .i64 S, .int .i64 U, .int .i64 0]) (by simp [results, Tryz.results79, go_sem]) rfl ⟨rfl, rfl⟩

/-- a time of a day? -/
def isT (t : Int) : Prop := 0 ≤ t ∧ t ≤ 86400000000
instance (t : Int) : Decidable (isT t) := by unfold isT; infer_instance
def tm (x : Int) (t : Int) : Int := if isT t then x else 0
def tmE (t : Int) : Int := if isT t then 0 else 10

/-- clock.Parts, whatever it is given. -/
theorem parts_any (t : Int) (w : World) :
    Calls Tryz.prog 75 #[.int .i64 t] w fun e w' => e = .returned (.tuple #[.int .i64 (tm (t / 3600000000) t), .int .i64 (tm (t / 60000000 % 60) t), .int .i64 (tm (t / 1000000 % 60) t), .int .i64 (tm (t % 1000000) t), .int .i64 (tmE t)]) ∧ w' = w := by
  unfold tm tmE
  by_cases h : isT t
  · simp only [if_pos h]
    obtain ⟨h1, h2⟩ := h
    have a1 : t.tdiv 60000000 = t / 60000000 := Int.tdiv_eq_ediv_of_nonneg h1
    have b1 : t.tdiv 1000000 = t / 1000000 := Int.tdiv_eq_ediv_of_nonneg h1
    exact parts_in t _ _ _ _ _ _ h1 h2 (Int.tdiv_eq_ediv_of_nonneg h1) a1 (Int.tmod_eq_emod_of_nonneg (by omega)) b1 (Int.tmod_eq_emod_of_nonneg (by omega)) (Int.tmod_eq_emod_of_nonneg h1) (by omega) (by omega) (by omega) (by omega) (by omega) (by omega) w
  · simp only [if_neg h]
    exact parts_out t (by unfold isT at h; omega) w

theorem rparts_any (t : Int) (w : World) :
    Calls Tryz.prog 79 #[.int .i64 t] w fun e w' => e = .returned (.tuple #[.int .i64 (tm (t / 3600000000) t), .int .i64 (tm (t / 60000000 % 60) t), .int .i64 (tm (t / 1000000 % 60) t), .int .i64 (tm (t % 1000000) t), .int .i64 (tmE t)]) ∧ w' = w := by
  unfold tm tmE
  by_cases h : isT t
  · simp only [if_pos h]
    obtain ⟨h1, h2⟩ := h
    have b1 : t.tdiv 1000000 = t / 1000000 := Int.tdiv_eq_ediv_of_nonneg h1
    have a1 : (t / 1000000).tdiv 60 = t / 60000000 := by rw [Int.tdiv_eq_ediv_of_nonneg (by omega)]; omega
    have c1 : (t / 1000000).tdiv 3600 = t / 3600000000 := by rw [Int.tdiv_eq_ediv_of_nonneg (by omega)]; omega
    exact rparts_in t _ _ _ _ _ _ h1 h2 c1 a1 (Int.tmod_eq_emod_of_nonneg (by omega)) b1 (Int.tmod_eq_emod_of_nonneg (by omega)) (Int.tmod_eq_emod_of_nonneg h1) (by omega) (by omega) (by omega) (by omega) (by omega) (by omega) w
  · simp only [if_neg h]
    exact rparts_out t (by unfold isT at h; omega) w

end Go.Proofs.YtmohhbgmbicklaaGreatDoor.Clk
