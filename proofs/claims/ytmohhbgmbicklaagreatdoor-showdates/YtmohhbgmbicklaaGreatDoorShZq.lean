/- An interval in any style: the program's text is the reference's. -/
import Derived.Test.YtmohhbgmbicklaaGreatDoorShSq
import Derived.Test.YtmohhbgmbicklaaGreatDoorShGq
import Derived.Test.YtmohhbgmbicklaaGreatDoorSpYq
namespace Go.Proofs.YtmohhbgmbicklaaGreatDoor
open Go.RowKit
set_option linter.unusedVariables false

theorem iok {c : Prop} [Decidable c] (r : Bool) (w : World) : (if c then Result.ok r w else Result.ok false w) = Result.ok (decide c && r) w := by split <;> simp [*]
theorem iok' {c : Prop} [Decidable c] (r : Bool) (w : World) : (if c then Result.ok false w else Result.ok r w) = Result.ok (decide (¬ c) && r) w := by split <;> simp [*]
set_option maxRecDepth 100000 in
set_option maxHeartbeats 4000000 in
theorem eqS_any (M D U : Int) (h : ¬ (M = 0 ∧ D = 0 ∧ U = 0)) (W : World) : (Op.equalIn 10000 40 (.agg #[.int .i64 0, .int .i64 M, .int .i64 D, .int .i64 U]) (.agg #[.int .i64 0, .int .i64 0, .int .i64 0, .int .i64 0])).run Tryz.prog W = .ok false W := by
  rw [run_equalIn_struct W 9999 40 _ _ (by kernel_rfl) (by kernel_rfl)]
  go_simp
  try simp only [iok, iok']
  try congr 1
  by_cases h1 : M = 0 <;> by_cases h2 : D = 0 <;> by_cases h3 : U = 0 <;> simp_all

/-- a number with a letter. -/
def mkB (n : Int) (l : ByteArray) : ByteArray := if n = 0 then ⟨#[]⟩ else dg n ++ l
theorem marked_any (n : Int) (l : ByteArray) (hl : l.size ≤ 1) (h0 : -9223372036854775808 ≤ n) (h1 : n ≤ 9223372036854775807) (w : World) (hT : Clk.Tab w) : Calls Tryz.prog 63 #[.int .i64 n, .string l] w fun r' w' => r' = .returned (.string (mkB n l)) ∧ Below w.heap.size w w' := by
  unfold mkB
  by_cases h : n = 0
  · subst h; rw [if_pos rfl]; exact mk_0 l w
  · rw [if_neg h]
    have := dg_size n h0 h1
    exact mk_n n l (dg n) h (fun w hw => digits_any n h0 h1 w hw) (fun b w h => je2 _ _ (by omega) (by omega) b w h) w (tab_of hT)

def msB (us : Int) : ByteArray := if us = 0 then ⟨#[]⟩ else (if us < 0 then ⟨#[45]⟩ else ⟨#[]⟩) ++ dg (us.natAbs / 1000000) ++ Clk.fracB (us.natAbs % 1000000) ++ ⟨#[83]⟩
theorem marks_any (us : Int) (h0 : -9223372036854775807 ≤ us) (h1 : us ≤ 9223372036854775807) (w : World) (hT : Clk.Tab w) : Calls Tryz.prog 64 #[.int .i64 us] w fun r' w' => r' = .returned (.string (msB us)) ∧ Below w.heap.size w w' := by
  unfold msB
  obtain ⟨u, hu⟩ : ∃ u : Int, u = us.natAbs := ⟨_, rfl⟩
  rw [← hu]
  have z1 := dg_size (u / 1000000) (by omega) (by omega)
  have z2 := Clk.fracB_size (u % 1000000)
  by_cases h : us = 0
  · subst h; rw [if_pos rfl]; exact ms_0 w
  · rw [if_neg h]
    by_cases hn : us < 0
    · rw [if_pos hn]
      exact ms_n us u _ _ hn (by omega) (by omega) (fun w => shsize_any us u (by omega) (by omega) hu w) (fun w hw => digits_any _ (by omega) (by omega) w hw) (fun w hw => Clk.frac_any _ w hw) (fun b w h => je4 _ _ _ _ (by decide) (by omega) (by omega) (by decide) b w h) w (tab_of hT)
    · rw [if_neg hn]
      exact ms_p us u _ _ (by omega) (by omega) (by omega) (fun w => shsize_any us u (by omega) (by omega) hu w) (fun w hw => digits_any _ (by omega) (by omega) w hw) (fun w hw => Clk.frac_any _ w hw) (fun b w h => je4 _ _ _ _ (by decide) (by omega) (by omega) (by decide) b w h) w (tab_of hT)
end Go.Proofs.YtmohhbgmbicklaaGreatDoor
