/- Plain mathematics of months: the first day of a month, counted through all years; so many months on; how many months lie between two days. -/
import Derived.Test.YtpdmndlpgjjopaaGreatDoorStFq
namespace Go.Proofs.YtpdmndlpgjjopaaGreatDoor
set_option linter.unusedVariables false
namespace Sm

/-- the length and the first day of the month T (12 y + m - 1). -/
def ln (T : Int) : Int := Cv.len (T / 12) (T % 12 + 1)
def Fi (T : Int) : Int := Cv.S (T / 12) + Cv.cum (T / 12) (T % 12 + 1)
theorem ln_bd (T : Int) : 28 ≤ ln T ∧ ln T ≤ 31 := Cv.len_01 _ _ (by omega) (by omega)
theorem Fi_succ (T : Int) : Fi (T + 1) = Fi T + ln T := by
  unfold Fi ln
  by_cases h : T % 12 = 11
  · rw [show (T + 1) / 12 = T / 12 + 1 by omega, show (T + 1) % 12 + 1 = 1 by omega, Cv.cum_one, Cv.S_succ, h]
    have h1 := Cv.cum_succ (T / 12) 12 (by decide) (by decide)
    have h2 := Cv.cum_all (T / 12)
    have e : (12 : Int) + 1 = 13 := rfl
    rw [e] at h1
    have e2 : (11 : Int) + 1 = 12 := rfl
    rw [e2]
    omega
  · rw [show (T + 1) / 12 = T / 12 by omega, show (T + 1) % 12 + 1 = (T % 12 + 1) + 1 by omega, Cv.cum_succ _ _ (by omega) (by omega)]
    omega
theorem Fi_add (T : Int) : ∀ n : Nat, Fi T ≤ Fi (T + n)
  | 0 => by simp
  | n + 1 => by
    have := Fi_add T n
    have h := Fi_succ (T + n)
    have b := ln_bd (T + n)
    rw [show T + ((n + 1 : Nat) : Int) = T + n + 1 by omega, h]
    omega
theorem Fi_mono {T U : Int} (h : T ≤ U) : Fi T ≤ Fi U := by
  have := Fi_add T (U - T).toNat
  rwa [show T + ((U - T).toNat : Int) = U by omega] at this
/-- a day of an earlier month is earlier. -/
theorem day_lt {T U n q p : Int} (h : T < U) (hq : q ≤ ln T) (hp : 1 ≤ p) : Fi T + q - 1 < Fi U + p - 1 := by
  have := Fi_mono (show T + 1 ≤ U by omega)
  rw [Fi_succ] at this
  omega
/-- two days, b not behind a: the months between them. -/
structure Gap (a b T U q p : Int) : Prop where
  ha : a = Fi T + q - 1
  hb : b = Fi U + p - 1
  q1 : 1 ≤ q
  q2 : q ≤ ln T
  p1 : 1 ≤ p
  p2 : p ≤ ln U
theorem Gap.le {a b T U q p : Int} (h : Gap a b T U q p) (hab : b ≤ a) : U ≤ T := by
  refine Int.not_lt.1 fun k => ?_
  have := day_lt (n := 0) k h.q2 h.p1
  have := h.ha
  have := h.hb
  omega
end Sm
end Go.Proofs.YtpdmndlpgjjopaaGreatDoor
