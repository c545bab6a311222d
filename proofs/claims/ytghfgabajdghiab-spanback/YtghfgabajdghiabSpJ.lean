/- Justify, whole, the program's; what the laws' fixed calls come to. -/
import Derived.Test.YtghfgabajdghiabSpG
import Derived.Test.YtghfgabajdghiabSpE
namespace Go.Proofs.Ytghfgabajdghiab
open Go.RowKit
set_option linter.unusedVariables false

/-- days of 24 hours, months of 30 days: step by step. -/
def jD (d u : Int) : Int := d + u.tdiv 86400000000
def jM (m d u : Int) : Int := m + (jD d u).tdiv 30
def jE (d u : Int) : Int := (jD d u).tmod 30
def jU (u : Int) : Int := u.tmod 86400000000
def jS (d u : Int) : Int := sgA 0 0 (jE d u) (jU u)
def jD3 (m d u : Int) : Int := lS (jM m d u) (jE d u) 30 (jS d u)
def jD4 (m d u : Int) : Int := lG (jD3 m d u) (sgnC (jU u) 0)
def jU2 (m d u : Int) : Int := lS (jD3 m d u) (jU u) 86400000000 (sgnC (jU u) 0)
def jM2 (m d u : Int) : Int := lG (jM m d u) (jS d u)
def jus5 (i m d u : Int) : R5 := if pR i m d u = true then (if i = 0 then (if cnt (jD d u) = true then mk5 (jM2 m d u) (jD4 m d u) (jU2 m d u) else err5 10) else ⟨i, m, d, u, 0⟩) else err5 1

theorem tmod_day (u : Int) : -86400000000 < u.tmod 86400000000 ∧ u.tmod 86400000000 < 86400000000 := by
  have := Nm.tmod_bd (a := u) (b := 86400000000) (by decide)
  omega
theorem tdiv_day (u : Int) (h1 : -9223372036854775808 ≤ u) (h2 : u ≤ 9223372036854775807) : -1000000000 ≤ u.tdiv 86400000000 ∧ u.tdiv 86400000000 ≤ 1000000000 := by
  have := Int.mul_tdiv_add_tmod u 86400000000
  have a := tmod_day u
  omega
theorem tmod_30 (u : Int) : -30 < u.tmod 30 ∧ u.tmod 30 < 30 := by
  have := Nm.tmod_bd (a := u) (b := 30) (by decide)
  omega
theorem tdiv_30 {u : Int} (h : cnt u = true) : -100000000 ≤ u.tdiv 30 ∧ u.tdiv 30 ≤ 100000000 := by
  have := Int.mul_tdiv_add_tmod u 30
  have a := tmod_30 u
  have b := cnt_yes h
  omega
theorem sgA_bd (i m d u : Int) : -1 ≤ sgA i m d u ∧ sgA i m d u ≤ 1 := by
  unfold sgA
  split
  · rename_i h
    have := pR_yes h
    split
    · split
      · decide
      · split <;> decide
    · omega
  · decide
theorem sgnC_bd (a b : Int) : -1 ≤ sgnC a b ∧ sgnC a b ≤ 1 := by
  unfold sgnC
  split
  · decide
  · split <;> decide
theorem lG_bd {g b : Int} (g1 : -1000 ≤ g) (g2 : g ≤ 1000) : -1001 ≤ lG g b ∧ lG g b ≤ 1001 := by unfold lG; split; omega; split <;> omega
theorem lS_bd {g s u b : Int} (s1 : -u < s) (s2 : s < u) (u1 : 0 ≤ u) : -(2 * u) < lS g s u b ∧ lS g s u b < 2 * u := by unfold lS; split; omega; split <;> omega

theorem pjus_any (i m d u : Int) (u1 : -9223372036854775808 ≤ u) (u2 : u ≤ 9223372036854775807) (w : World) :
    Calls Try.prog 26 #[a4 i m d u] w fun r w' => r = .returned (v5 (jus5 i m d u)) ∧ Below w.heap.size w w' := by
  have RI := pright_is i m d u u1 u2
  unfold jus5
  cases h : pR i m d u
  · rw [if_neg (by decide)]; exact pjus_no i m d u (RI false h) w
  · rw [if_pos rfl]
    by_cases h0 : i = 0
    · subst h0
      rw [if_pos rfl]
      have q := pR_yes h
      obtain ⟨t1, t2⟩ := tdiv_day u u1 u2
      cases hc : cnt (jD d u)
      · rw [if_neg (by decide)]
        exact pjus_far m d u (jD d u) (jU u) (by omega) (by omega) (by omega) (by omega) t1 t2 rfl rfl (RI true h) (fun w => by rw [← hc]; exact isCount_any _ w) w
      · rw [if_pos rfl]
        obtain ⟨t3, t4⟩ := tdiv_30 hc
        have e1 := tmod_30 (jD d u)
        have e2 := tmod_day u
        have hM : -1000000000000 ≤ jM m d u ∧ jM m d u ≤ 1000000000000 := by unfold jM; omega
        have hE : -30 < jE d u ∧ jE d u < 30 := e1
        have hU : -86400000000 < jU u ∧ jU u < 86400000000 := e2
        have h3 : -(2 * 30) < jD3 m d u ∧ jD3 m d u < 2 * 30 := lS_bd (by omega) (by omega) (by decide)
        have h4 : -(2 * 86400000000) < jU2 m d u ∧ jU2 m d u < 2 * 86400000000 := lS_bd (by omega) (by omega) (by decide)
        exact pjus_run m d u (jD d u) (jU u) (jM m d u) (jE d u) (jS d u) (jM2 m d u) (jD3 m d u) (sgnC (jU u) 0) (jD4 m d u) (jU2 m d u) _ _ _ _ _ (by omega) (by omega) (by omega) (by omega) t1 t2 rfl rfl rfl rfl t3 t4 (RI true h) (fun w => by rw [← hc]; exact isCount_any _ w)
          (fun w => psign_any 0 0 (jE d u) (jU u) (by omega) (by omega) w) (fun w => lend_any _ _ 30 _ hM.1 hM.2 (by omega) (by omega) (by decide) (by decide) w) (fun w => cmp_int64_any _ _ w)
          (fun w => lend_any _ _ 86400000000 _ (by omega) (by omega) (by omega) (by omega) (by decide) (by decide) w) (fun w => pmake_any _ _ _ (by omega) (by omega) w) w
    · rw [if_neg h0]; exact pjus_inf i m d u h0 (RI true h) w

end Go.Proofs.Ytghfgabajdghiab
