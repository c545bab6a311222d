/- Plain mathematics, more: the first day of a month, counted through the years; the date of the next day; months keep the order of days. -/
import Derived.Test.YtncpihfpfieahacDoorCivG
namespace Go.Proofs.YtncpihfpfieahacDoor
set_option linter.unusedVariables false
namespace Cv

/-- the first day of the month number k, counted from the year 0. -/
def P (k : Int) : Int := S (k / 12) + cum (k / 12) (k % 12 + 1)
theorem P_succ (k : Int) : P (k + 1) = P k + len (k / 12) (k % 12 + 1) := by
  unfold P
  by_cases h : k % 12 = 11
  · have e1 : (k + 1) / 12 = k / 12 + 1 := by omega
    have e2 : (k + 1) % 12 + 1 = 1 := by omega
    have e3 : k % 12 + 1 = 12 := by omega
    rw [e1, e2, e3, cum_one, S_succ]
    have c := cum_succ (k / 12) 12 (by omega) (by omega)
    have d := cum_all (k / 12)
    rw [show (12 : Int) + 1 = 13 by omega] at c
    omega
  · have e1 : (k + 1) / 12 = k / 12 := by omega
    have e2 : (k + 1) % 12 + 1 = k % 12 + 1 + 1 := by omega
    rw [e1, e2, cum_succ _ _ (by omega) (by omega)]
    omega
theorem P_mono {a b : Int} (h : a ≤ b) : P a ≤ P b := by
  obtain ⟨k, rfl⟩ : ∃ k : Nat, b = a + k := ⟨(b - a).toNat, by omega⟩
  clear h
  induction k with
  | zero => simp
  | succ k ih =>
    have c := P_succ (a + k)
    have l := len_bd ((a + k) / 12) ((a + k) % 12 + 1)
    rw [show a + ((k + 1 : Nat) : Int) = a + (k : Int) + 1 by omega]
    omega
theorem P_of (y m : Int) (h1 : 1 ≤ m) (h2 : m ≤ 12) : P (12 * y + m - 1) = S y + cum y m := by
  unfold P
  rw [show (12 * y + m - 1) / 12 = y by omega, show (12 * y + m - 1) % 12 + 1 = m by omega]
theorem is_P {n y m d : Int} (h : Is n y m d) : n = P (12 * y + m - 1) + d - 1 ∧ n < P (12 * y + m - 1 + 1) := by
  obtain ⟨m1, m2, d1, d2, e⟩ := h
  have p := P_of y m m1 m2
  have q := P_succ (12 * y + m - 1)
  rw [show (12 * y + m - 1) / 12 = y by omega, show (12 * y + m - 1) % 12 + 1 = m by omega] at q
  omega
/-- the later day's month is not ahead; in one month the later day is not ahead. -/
theorem is_order {a b y m d y' m' d' : Int} (h : Is a y m d) (g : Is b y' m' d') (hab : a ≤ b) : 12 * y + m - 1 ≤ 12 * y' + m' - 1 ∧ (12 * y + m - 1 = 12 * y' + m' - 1 → d ≤ d') := by
  have p := is_P h
  have q := is_P g
  have d1 := h.2.2.1
  have d2 := g.2.2.1
  constructor
  · by_cases c : 12 * y + m - 1 ≤ 12 * y' + m' - 1
    · exact c
    · have := P_mono (a := 12 * y' + m' - 1 + 1) (b := 12 * y + m - 1) (by omega)
      omega
  · intro e
    rw [e] at p
    omega
theorem next_in {n y m d : Int} (h : Is n y m d) (hd : d < len y m) : Is (n + 1) y m (d + 1) := by
  obtain ⟨m1, m2, d1, d2, e⟩ := h
  exact ⟨m1, m2, by omega, by omega, by omega⟩
theorem next_mon {n y m d : Int} (h : Is n y m d) (hd : d = len y m) (hm : m < 12) : Is (n + 1) y (m + 1) 1 := by
  obtain ⟨m1, m2, d1, d2, e⟩ := h
  have c := cum_succ y m m1 m2
  have l := len_01 y (m + 1) (by omega) (by omega)
  exact ⟨by omega, by omega, by omega, by omega, by omega⟩
theorem next_year {n y m d : Int} (h : Is n y m d) (hd : d = len y m) (hm : m = 12) : Is (n + 1) (y + 1) 1 1 ∧ d = 31 := by
  obtain ⟨m1, m2, d1, d2, e⟩ := h
  subst hm
  have c := cum_succ y 12 (by omega) (by omega)
  have a := cum_all y
  rw [show (12 : Int) + 1 = 13 by omega] at c
  have s := S_succ y
  have l : len y 12 = 31 := by simp [len]
  have l1 : len (y + 1) 1 = 31 := by simp [len]
  have o := cum_one (y + 1)
  refine ⟨⟨by omega, by omega, by omega, by omega, ?_⟩, by omega⟩
  omega
end Cv

theorem is_right {n y m d : Int} (h : can n = true) (hd : Cv.Is n y m d) : right y m d = true := by
  obtain ⟨n1, n2⟩ := of_can h
  obtain ⟨b1, b2⟩ := Cv.is_year hd
  obtain ⟨y1, y2⟩ := can_year n1 n2 b1 b2
  exact right_yes ⟨y1, y2, hd.2.2.1, hd.2.2.2.1⟩
theorem right_is {y m d : Int} (h : right y m d = true) : Cv.Is (Cv.S y + Cv.cum y m + d - 1) y m d ∧ can (Cv.S y + Cv.cum y m + d - 1) = true := by
  obtain ⟨y1, y2, d1, d2⟩ := of_right h
  obtain ⟨m1, m2⟩ := right_mon ⟨y1, y2, d1, d2⟩
  have hi : Cv.Is (Cv.S y + Cv.cum y m + d - 1) y m d := ⟨m1, m2, d1, d2, rfl⟩
  obtain ⟨b1, b2⟩ := Cv.is_year hi
  have a := Cv.S_mono (y := -4718) (z := y) y1
  have b := Cv.S_mono (y := y + 1) (z := 294283) (by omega)
  rw [S_first] at a
  rw [S_last] at b
  exact ⟨hi, can_yes (by omega) (by omega)⟩

end Go.Proofs.YtncpihfpfieahacDoor
