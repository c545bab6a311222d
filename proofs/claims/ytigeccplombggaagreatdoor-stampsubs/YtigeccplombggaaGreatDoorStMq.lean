/- Plain mathematics of months: the first day of a month, counted through all years; so many months on; how many months lie between two days. -/
import Derived.Test.YtigeccplombggaaGreatDoorStFq
namespace Go.Proofs.YtigeccplombggaaGreatDoor
set_option linter.unusedVariables false
namespace Sm

/-- the length and the first day of the month T (12 y + m - 1). -/
def ln (T : Int) : Int := Cv.len (T / 12) (T % 12 + 1)
def Fi (T : Int) : Int := Cv.S (T / 12) + Cv.cum (T / 12) (T % 12 + 1)
theorem ln_bd (T : Int) : 28 ≤ ln T ∧ ln T ≤ 31 := Cv.len_01 _ _ (by omega) (by omega)
theorem Fi_succ (T : Int) : Fi (T + 1) = Fi T + ln T := by
  unfold Fi ln
  by_cases h : T % 12 = 11
  · rw [show (T + 1) / 12 = T / 12 + 1 by omega, show (T + 1) % 12 + 1 = 1 by omega, Cv.cum_one, Cv.S_succ, h]
    have h1 := Cv.cum_succ (T / 12) 12 (by decide) (by decide)
    have h2 := Cv.cum_all (T / 12)
    have e : (12 : Int) + 1 = 13 := rfl
    rw [e] at h1
    have e2 : (11 : Int) + 1 = 12 := rfl
    rw [e2]
    omega
  · rw [show (T + 1) / 12 = T / 12 by omega, show (T + 1) % 12 + 1 = (T % 12 + 1) + 1 by omega, Cv.cum_succ _ _ (by omega) (by omega)]
    omega
theorem Fi_add (T : Int) : ∀ n : Nat, Fi T ≤ Fi (T + n)
  | 0 => by simp
  | n + 1 => by
    have := Fi_add T n
    have h := Fi_succ (T + n)
    have b := ln_bd (T + n)
    rw [show T + ((n + 1 : Nat) : Int) = T + n + 1 by omega, h]
    omega
theorem Fi_mono {T U : Int} (h : T ≤ U) : Fi T ≤ Fi U := by
  have := Fi_add T (U - T).toNat
  rwa [show T + ((U - T).toNat : Int) = U by omega] at this
theorem is_T {n y m q : Int} (h : Cv.Is n y m q) : n = Fi (12 * y + m - 1) + q - 1 ∧ 1 ≤ q ∧ q ≤ ln (12 * y + m - 1) ∧ (12 * y + m - 1) / 12 = y := by
  obtain ⟨h1, h2, h3, h4, h5⟩ := h
  unfold Fi ln
  rw [show (12 * y + m - 1) / 12 = y by omega, show (12 * y + m - 1) % 12 + 1 = m by omega]
  exact ⟨h5, h3, h4, rfl⟩
theorem T_is {T q : Int} (h1 : 1 ≤ q) (h2 : q ≤ ln T) : Cv.Is (Fi T + q - 1) (T / 12) (T % 12 + 1) q := by
  unfold Fi ln at *
  exact ⟨by omega, by omega, h1, h2, by omega⟩
/-- a day of an earlier month is earlier. -/
theorem day_lt {T U n q p : Int} (h : T < U) (hq : q ≤ ln T) (hp : 1 ≤ p) : Fi T + q - 1 < Fi U + p - 1 := by
  have := Fi_mono (show T + 1 ≤ U by omega)
  rw [Fi_succ] at this
  omega
/-- the day of the month k months on. -/
def dk (T q k : Int) : Int := Fi (T + k) + Cvl.cut q (ln (T + k)) - 1
theorem cut_bd {q l : Int} (h1 : 1 ≤ q) (h2 : 28 ≤ l) : 1 ≤ Cvl.cut q l ∧ Cvl.cut q l ≤ l := by unfold Cvl.cut; split <;> omega
theorem dk_zero {T q : Int} (h : q ≤ ln T) : dk T q 0 = Fi T + q - 1 := by
  unfold dk
  rw [Int.add_zero, show Cvl.cut q (ln T) = q from if_pos h]
/-- so many months on: the day, where the year can be. -/
theorem s1_eq {d y m q k : Int} (h : Cv.Is d y m q) (y1 : -4712 ≤ (12 * y + m - 1 + k) / 12) (y2 : (12 * y + m - 1 + k) / 12 ≤ 294276) : s1k y m q k = true ∧ s1v d y m q k = dk (12 * y + m - 1) q k := by
  obtain ⟨e, q1, q2, e2⟩ := is_T h
  unfold s1k s1v
  by_cases hk : k = 0
  · subst hk
    rw [if_pos rfl, if_pos rfl, dk_zero q2]
    exact ⟨rfl, e⟩
  · rw [if_neg hk, if_neg hk]
    have b := ln_bd (12 * y + m - 1 + k)
    have c := cut_bd q1 b.1
    have hv : Cvl.shV y m q k = dk (12 * y + m - 1) q k ∧ Cvl.shE y m q k = 0 := by
      unfold Cvl.shV Cvl.shE Cvl.dayV Cvl.dayE
      have hr : Cvl.right ((12 * y + m - 1 + k) / 12) ((12 * y + m - 1 + k) % 12 + 1) (Cvl.cut q (Cv.len ((12 * y + m - 1 + k) / 12) ((12 * y + m - 1 + k) % 12 + 1))) = true := Cvl.right_yes ⟨by omega, by omega, c.1, c.2⟩
      rw [if_pos hr, if_pos hr]
      exact ⟨rfl, rfl⟩
    have hd : Dy.dok (dk (12 * y + m - 1) q k) = true := by
      unfold dk
      rw [Dy.dok_year (T_is (T := 12 * y + m - 1 + k) c.1 c.2)]
      exact decide_eq_true ⟨y1, y2⟩
    rw [hv.1, hv.2, hd]
    exact ⟨by simp, rfl⟩

/-- two days, b not behind a: the months between them. -/
structure Gap (a b T U q p : Int) : Prop where
  ha : a = Fi T + q - 1
  hb : b = Fi U + p - 1
  q1 : 1 ≤ q
  q2 : q ≤ ln T
  p1 : 1 ≤ p
  p2 : p ≤ ln U
theorem Gap.le {a b T U q p : Int} (h : Gap a b T U q p) (hab : b ≤ a) : U ≤ T := by
  refine Int.not_lt.1 fun k => ?_
  have := day_lt (n := 0) k h.q2 h.p1
  have := h.ha
  have := h.hb
  omega
/-- in a's month: at most 31 days away. -/
theorem Gap.same {a b T U q p : Int} (h : Gap a b T U q p) : -31 ≤ a - dk U p (T - U) ∧ a - dk U p (T - U) ≤ 31 := by
  unfold dk
  rw [show U + (T - U) = T by omega]
  have b := ln_bd T
  have c := cut_bd h.p1 b.1
  have := h.ha
  have := h.q1
  have := h.q2
  omega
/-- in the month ahead of it: ahead of a, at most 62 days. -/
theorem Gap.prev {a b T U q p : Int} (h : Gap a b T U q p) : 0 < a - dk U p (T - U - 1) ∧ a - dk U p (T - U - 1) ≤ 62 := by
  unfold dk
  rw [show U + (T - U - 1) = T - 1 by omega]
  have b := ln_bd (T - 1)
  have b2 := ln_bd T
  have c := cut_bd h.p1 b.1
  have e := Fi_succ (T - 1)
  rw [show T - 1 + 1 = T by omega] at e
  have := h.ha
  have := h.q1
  have := h.q2
  omega

end Sm
end Go.Proofs.YtigeccplombggaaGreatDoor
