import Derived.Test.YtpdmndlpgjjopaaGreatDoorQz
import Derived.Test.YtpdmndlpgjjopaaGreatDoorRows
import Derived.WalkKit
import Derived.WalkSpells
import Derived.WalkLawsBesides
import Derived.Lib.Strings
import Derived.Lib.Slices
import Derived.Lib.Small
import Derived.Lib.Walk
import Derived.Lib.BitFns
import Derived.Lib.Mul64
import Derived.Laws.Bits64b
import Derived.Lib.ItoaNum
import Derived.RegionTactic
import Derived.ChangeAlike
import Derived.Deep.MidRow
import Derived.Deep.RegionHeld3
import Derived.Laws.StructEq
import Derived.Deep.Cut
import Derived.Deep.CutRange
import Derived.Deep.DeepCutAuto
import Derived.Deep.RegionWith
import Derived.Deep.DeepMust
import Derived.Deep.QuietTactic
import Derived.BigQuiet
open Go.Value renaming int → vi
open Go.IntKind renaming i64 → ki
open List renaming setIfInBounds_toArray → zb, set_cons_zero → zc, set_cons_succ → zd
open Go.Act renaming put → za
open Go.Ending renaming returned → zr
set_option maxRecDepth 100000
set_option maxHeartbeats 16000000
set_option linter.unusedVariables false
namespace Go.Proofs.YtpdmndlpgjjopaaGreatDoor
namespace Cv
def leap (y : Int) : Bool := (y % 4 == 0) && ((y % 100 != 0) || (y % 400 == 0))
def lp (y : Int) : Int := if leap y = true then 1 else 0
def len (y m : Int) : Int := if m = 2 then 28 + lp y else if m = 4 ∨ m = 6 ∨ m = 9 ∨ m = 11 then 30 else if 1 ≤ m ∧ m ≤ 12 then 31 else 0
def S (y : Int) : Int := 365 * (y + 4800) + (y + 4803) / 4 - (y + 4899) / 100 + (y + 5199) / 400 - 2483649
def cum (y m : Int) : Int :=
 if m ≤ 1 then 0 else if m = 2 then 31 else lp y + (if m = 3 then 59 else if m = 4 then 90 else if m = 5 then 120 else if m = 6 then 151 else if m = 7 then 181 else if m = 8 then 212 else if m = 9 then 243 else if m = 10 then 273 else if m = 11 then 304 else if m = 12 then 334 else 365)
theorem leap_iff (y : Int) : leap y = true ↔ (y % 4 = 0 ∧ (y % 100 ≠ 0 ∨ y % 400 = 0)) := by
 unfold leap; simp [bne_iff_ne]
theorem lp_eq (y : Int) : lp y = if (y % 4 = 0 ∧ (y % 100 ≠ 0 ∨ y % 400 = 0)) then 1 else 0 := by
 unfold lp; simp only [leap_iff]
theorem lp_01 (y : Int) : 0 ≤ lp y ∧ lp y ≤ 1 := by unfold lp; split <;> omega
theorem S_succ (y : Int) : S (y + 1) = S y + 365 + lp y := by
 rw [lp_eq]; unfold S; split <;> omega
theorem S_cycle (y k : Int) : S (y + 400 * k) = S y + 146097 * k := by unfold S; omega
theorem S_mono {y z : Int} (h : y ≤ z) : S y ≤ S z := by unfold S; omega
theorem S_lt {y z : Int} (h : S y < S z) : y < z := by
 by_cases g : z ≤ y
 ·have := S_mono g; omega
 ·omega
theorem year_one {n y z : Int} (h1 : S y ≤ n) (h2 : n < S (y + 1)) (h3 : S z ≤ n) (h4 : n < S (z + 1)) : y = z := by
 have a : y < z + 1 := S_lt (by omega)
 have b : z < y + 1 := S_lt (by omega)
 omega
theorem guess (n y : Int) (h : y = n * 400 / 146097) : S (2000 + y - 1) ≤ n ∧ n < S (2000 + y + 2) ∧ (S (2000 + y) ≤ n ∨ S (2000 + y - 1) ≤ n) := by
 unfold S; omega
theorem year_is (n : Int) : ∃ y, S y ≤ n ∧ n < S (y + 1) := by
 obtain ⟨g1, g2, _⟩ := guess n _ rfl
 generalize n * 400 / 146097 = y at *
 by_cases a : n < S (2000 + y)
 ·exact ⟨2000 + y - 1, g1, by rw [show 2000 + y - 1 + 1 = 2000 + y by omega]; exact a⟩
 ·by_cases b : n < S (2000 + y + 1)
  ·exact ⟨2000 + y, by omega, b⟩
  ·exact ⟨2000 + y + 1, by omega, by rw [show 2000 + y + 1 + 1 = 2000 + y + 2 by omega]; exact g2⟩
theorem len_01 (y m : Int) (h1 : 1 ≤ m) (h2 : m ≤ 12) : 28 ≤ len y m ∧ len y m ≤ 31 := by
 have := lp_01 y
 unfold len; split
 ·omega
 ·split
  ·omega
  ·split <;> omega
theorem len_bd (y m : Int) : 0 ≤ len y m ∧ len y m ≤ 31 := by
 have := lp_01 y
 unfold len; split
 ·omega
 ·split
  ·omega
  ·split <;> omega
theorem len_out (y m : Int) (h : m < 1 ∨ 12 < m) : len y m = 0 := by
 unfold len
 rw [if_neg (by omega), if_neg (by omega), if_neg (by omega)]
theorem twelve {m : Int} (h1 : 1 ≤ m) (h2 : m ≤ 12) : m = 1 ∨ m = 2 ∨ m = 3 ∨ m = 4 ∨ m = 5 ∨ m = 6 ∨ m = 7 ∨ m = 8 ∨ m = 9 ∨ m = 10 ∨ m = 11 ∨ m = 12 := by omega
theorem cum_succ (y m : Int) (h1 : 1 ≤ m) (h2 : m ≤ 12) : cum y (m + 1) = cum y m + len y m := by
 rcases twelve h1 h2 with rfl | rfl | rfl | rfl | rfl | rfl | rfl | rfl | rfl | rfl | rfl | rfl <;> simp [cum, len] <;> omega
theorem cum_one (y : Int) : cum y 1 = 0 := by simp [cum]
theorem cum_all (y : Int) : cum y 13 = 365 + lp y := by simp [cum]; omega
theorem cum_bd (y m : Int) : 0 ≤ cum y m ∧ cum y m ≤ 366 := by
 have := lp_01 y
 by_cases a : m ≤ 1
 ·unfold cum; rw [if_pos a]; omega
 ·by_cases b : m ≤ 12
  ·rcases twelve (m := m) (by omega) b with rfl | rfl | rfl | rfl | rfl | rfl | rfl | rfl | rfl | rfl | rfl | rfl <;> simp [cum] <;> omega
  ·unfold cum
   rw [if_neg a, if_neg (by omega), if_neg (by omega), if_neg (by omega), if_neg (by omega), if_neg (by omega), if_neg (by omega), if_neg (by omega), if_neg (by omega), if_neg (by omega), if_neg (by omega), if_neg (by omega)]
   omega
theorem cum_mono {y a b : Int} (h0 : 1 ≤ a) (h : a ≤ b) (h1 : b ≤ 13) : cum y a ≤ cum y b := by
 have := lp_01 y
 obtain ⟨k, rfl⟩ : ∃ k : Nat, b = a + k := ⟨(b - a).toNat, by omega⟩
 clear h
 induction k with
 | zero => simp
 | succ k ih =>
  have i := ih (by omega)
  have c := cum_succ y (a + k) (by omega) (by omega)
  have l := len_bd y (a + k)
  rw [show a + ((k + 1 : Nat) : Int) = a + (k : Int) + 1 by omega, c]
  omega
theorem month_is (y r : Int) (h1 : 0 ≤ r) (h2 : r < 365 + lp y) : ∃ m, 1 ≤ m ∧ m ≤ 12 ∧ cum y m ≤ r ∧ r < cum y (m + 1) := by
 have e := cum_all y
 have key : ∀ k : Nat, k ≤ 12 → r < cum y (k + 1) → ∃ m, 1 ≤ m ∧ m ≤ 12 ∧ cum y m ≤ r ∧ r < cum y (m + 1) := by
  intro k
  induction k with
  | zero => intro _ h; have e0 : cum y (((0 : Nat) : Int) + 1) = 0 := cum_one y; rw [e0] at h; omega
  | succ k ih =>
   intro hk h
   by_cases g : cum y ((k : Int) + 1) ≤ r
   ·exact ⟨(k : Int) + 1, by omega, by omega, g, by rw [show ((k : Int) + 1 + 1) = ((k + 1 : Nat) : Int) + 1 by omega]; exact h⟩
   ·exact ih (by omega) (by omega)
 exact key 12 (by omega) (by rw [show (((12 : Nat) : Int) + 1) = 13 by omega, e]; exact h2)
def Is (n y m d : Int) : Prop := 1 ≤ m ∧ m ≤ 12 ∧ 1 ≤ d ∧ d ≤ len y m ∧ n = S y + cum y m + d - 1
theorem is_date (n : Int) : ∃ y m d, Is n y m d := by
 obtain ⟨y, h1, h2⟩ := year_is n
 have e := S_succ y
 obtain ⟨m, m1, m2, c1, c2⟩ := month_is y (n - S y) (by omega) (by omega)
 have := cum_succ y m m1 m2
 exact ⟨y, m, n - S y - cum y m + 1, m1, m2, by omega, by omega, by omega⟩
theorem is_year {n y m d : Int} (h : Is n y m d) : S y ≤ n ∧ n < S (y + 1) := by
 obtain ⟨h1, h2, h3, h4, h5⟩ := h
 have a := cum_bd y m
 have b := cum_succ y m h1 h2
 have c := cum_mono (y := y) (a := m + 1) (b := 13) (by omega) (by omega) (by omega)
 have e := S_succ y
 rw [cum_all] at c
 omega
end Cv
namespace Nm
theorem tmod_neg_le {a b : Int} (h : a < 0) : a.tmod b ≤ 0 := by
 have := Int.tmod_nonneg (a := -a) b (by omega)
 rw [Int.neg_tmod] at this; omega
theorem keep {a b : Int} (hb : b ≠ 0) (h : a.tmod b = 0 ∨ (a.tmod b < 0 ↔ b < 0)) : a.fdiv b = a.tdiv b ∧ a.fmod b = a.tmod b := by
 rw [Int.fdiv_eq_tdiv, Int.fmod_eq_tmod]
 by_cases hd : b ∣ a
 ·simp [hd]
 ·have hz : a.tmod b ≠ 0 := fun e => hd (Int.dvd_of_tmod_eq_zero e)
  have hs : a.tmod b < 0 ↔ b < 0 := by rcases h with h | h; exact absurd h hz; exact h
  rw [if_neg hd, if_neg hd]
  by_cases ha : 0 ≤ a
  ·have h1 := Int.tmod_nonneg b ha
   have hb' : 0 ≤ b := by omega
   simp [ha, hb']
  ·have h1 := tmod_neg_le (a := a) (b := b) (by omega)
   have hb' : ¬ 0 ≤ b := by omega
   rw [if_neg ha, if_neg hb', if_neg ha, if_neg hb', Int.sign_eq_neg_one_of_neg (by omega)]
   have : (b.toNat : Int) = 0 := by omega
   omega
theorem down {a b : Int} (hb : b ≠ 0) (hz : a.tmod b ≠ 0) (h : ¬ (a.tmod b < 0 ↔ b < 0)) : a.fdiv b = a.tdiv b - 1 ∧ a.fmod b = a.tmod b + b := by
 have hd : ¬ b ∣ a := fun e => hz (Int.tmod_eq_zero_of_dvd e)
 rw [Int.fdiv_eq_tdiv, Int.fmod_eq_tmod, if_neg hd, if_neg hd]
 by_cases ha : 0 ≤ a
 ·have h1 := Int.tmod_nonneg b ha
  have hb' : ¬ 0 ≤ b := by omega
  simp [ha, hb']
 ·have h1 := tmod_neg_le (a := a) (b := b) (by omega)
  have hb' : 0 ≤ b := by omega
  rw [if_neg ha, if_pos hb', if_neg ha, if_pos hb', Int.sign_eq_one_of_pos (by omega)]
  omega
theorem tdiv_half {a b : Int} (h1 : -9223372036854775808 ≤ a) (h2 : a ≤ 9223372036854775807) (hb : b ≤ -2 ∨ 2 ≤ b) : -4611686018427387904 ≤ a.tdiv b ∧ a.tdiv b ≤ 4611686018427387904 := by
 have e : (a.tdiv b).natAbs = a.natAbs / b.natAbs := Int.natAbs_tdiv a b
 have l : a.natAbs / b.natAbs ≤ a.natAbs / 2 := Nat.div_le_div_left (by omega) (by omega)
 omega
theorem tdiv_bd {a b : Int} (h1 : -9223372036854775808 ≤ a) (h2 : a ≤ 9223372036854775807) (hb : b ≠ 0) (h : a ≠ -9223372036854775808 ∨ b ≠ -1) : -9223372036854775808 ≤ a.tdiv b ∧ a.tdiv b ≤ 9223372036854775807 := by
 by_cases h3 : b = 1
 ·subst h3; rw [Int.tdiv_one]; omega
 ·by_cases h4 : b = -1
  ·subst h4; rw [Int.tdiv_neg, Int.tdiv_one]; omega
  ·have := tdiv_half h1 h2 (b := b) (by omega)
   omega
theorem two_of_left {a b : Int} (hb : b ≠ 0) (hz : a.tmod b ≠ 0) : b ≤ -2 ∨ 2 ≤ b := by
 by_cases h3 : b = 1
 ·subst h3; exact absurd (Int.tmod_one a) hz
 ·by_cases h4 : b = -1
  ·subst h4; rw [Int.tmod_neg, Int.tmod_one] at hz; exact absurd rfl hz
  ·omega
theorem tmod_bd {a b : Int} (hb : b ≠ 0) : (a.tmod b).natAbs < b.natAbs := by
 have e : (a.tmod b).natAbs = a.natAbs % b.natAbs := Int.natAbs_tmod a b
 rw [e]
 exact Nat.mod_lt _ (by omega)
end Nm
open Go.RowKit
theorem ret_int {k : IntKind} {a b : Int} (h : a = b) : Ending.returned (.int k a) = zr (.int k b) := by rw [h]
theorem ret_two {k l : IntKind} {a b c d : Int} (h : a = b) (g : c = d) : Ending.returned (.tuple #[.int k a, .int l c]) = zr (.tuple #[.int k b, .int l d]) := by rw [h, g]
def smV (x : Int) : Int := if -9223372036854775808 ≤ x ∧ x ≤ 9223372036854775807 then x else 0
def smE (x : Int) : Int := if -9223372036854775808 ≤ x ∧ x ≤ 9223372036854775807 then 0 else 10
theorem smV_in {x : Int} (h1 : -9223372036854775808 ≤ x) (h2 : x ≤ 9223372036854775807) : smV x = x := if_pos ⟨h1, h2⟩
theorem smE_in {x : Int} (h1 : -9223372036854775808 ≤ x) (h2 : x ≤ 9223372036854775807) : smE x = 0 := if_pos ⟨h1, h2⟩
theorem smV_out {x : Int} (h : x < -9223372036854775808 ∨ 9223372036854775807 < x) : smV x = 0 := if_neg (by omega)
theorem smE_out {x : Int} (h : x < -9223372036854775808 ∨ 9223372036854775807 < x) : smE x = 10 := if_neg (by omega)
theorem add_in (a b : Int) (h1 : -9223372036854775808 ≤ a) (h2 : a ≤ 9223372036854775807) (h3 : -9223372036854775808 ≤ b) (h4 : b ≤ 9223372036854775807)
  (l1 : -9223372036854775808 ≤ a + b) (l2 : a + b ≤ 9223372036854775807) (w : World) :
  Calls Tryz.prog 55 #[vi ki a, vi ki b] w fun e w' => e = zr (.tuple #[vi ki (a + b), vi ki 0]) ∧ w' = w := by
 by_cases h : b < 0
 ·have hs : a + b < a := by omega
  go_enter Tryz.func55, Tryz.ntmps55
  go_wp2
  go_ret2
  exact ⟨rfl, rfl⟩
 ·have hs : ¬ a + b < a := by omega
  go_enter Tryz.func55, Tryz.ntmps55
  go_wp2
  go_ret2
  exact ⟨rfl, rfl⟩
theorem add_out (a b : Int) (h1 : -9223372036854775808 ≤ a) (h2 : a ≤ 9223372036854775807) (h3 : -9223372036854775808 ≤ b) (h4 : b ≤ 9223372036854775807)
  (l : a + b < -9223372036854775808 ∨ 9223372036854775807 < a + b) (w : World) :
  Calls Tryz.prog 55 #[vi ki a, vi ki b] w fun e w' => e = zr (.tuple #[vi ki 0, vi ki 10]) ∧ w' = w := by
 rcases l with l | l
 ·have h : b < 0 := by omega
  have hs : ¬ wrap64 (a + b) < a := by unfold wrap64; omega
  clear l
  go_enter Tryz.func55, Tryz.ntmps55
  go_wp2
  go_ret2
  exact ⟨rfl, rfl⟩
 ·have h : ¬ b < 0 := by omega
  have hs : wrap64 (a + b) < a := by unfold wrap64; omega
  clear l
  go_enter Tryz.func55, Tryz.ntmps55
  go_wp2
  go_ret2
  exact ⟨rfl, rfl⟩
theorem add_any (a b : Int) (h1 : -9223372036854775808 ≤ a) (h2 : a ≤ 9223372036854775807) (h3 : -9223372036854775808 ≤ b) (h4 : b ≤ 9223372036854775807) (w : World) :
  Calls Tryz.prog 55 #[vi ki a, vi ki b] w fun e w' => e = zr (.tuple #[vi ki (smV (a + b)), vi ki (smE (a + b))]) ∧ w' = w := by
 by_cases l : -9223372036854775808 ≤ a + b ∧ a + b ≤ 9223372036854775807
 ·rw [smV_in l.1 l.2, smE_in l.1 l.2]; exact add_in a b h1 h2 h3 h4 l.1 l.2 w
 ·rw [smV_out (by omega), smE_out (by omega)]; exact add_out a b h1 h2 h3 h4 (by omega) w
def sgn (b : Bool) (n : Nat) : Int := if b then -(n : Int) else n
theorem div_edge (w : World) :
  Calls Tryz.prog 58 #[vi ki (-9223372036854775808), vi ki (-1)] w fun e w' => e = zr (.tuple #[vi ki 0, vi ki 10]) ∧ w' = w := by
 go_enter Tryz.func58, Tryz.ntmps58
 go_wp2
 go_ret2
 exact ⟨rfl, rfl⟩
theorem div_in (a b : Int) (h1 : -9223372036854775808 ≤ a) (h2 : a ≤ 9223372036854775807) (h3 : -9223372036854775808 ≤ b) (h4 : b ≤ 9223372036854775807)
  (hb : b ≠ 0) (h : a ≠ -9223372036854775808 ∨ b ≠ -1) (w : World) :
  Calls Tryz.prog 58 #[vi ki a, vi ki b] w fun e w' => e = zr (.tuple #[vi ki (a.fdiv b), vi ki 0]) ∧ w' = w := by
 have hb0 : (b == 0) = false := by rw [beq_eq_false_iff_ne]; exact hb
 have he : (a == -9223372036854775808) = false ∨ ((a == -9223372036854775808) = true ∧ (b == -1) = false) := by
  by_cases ha : a = -9223372036854775808
  ·exact .inr ⟨by rw [beq_iff_eq]; exact ha, by rw [beq_eq_false_iff_ne]; omega⟩
  ·exact .inl (by rw [beq_eq_false_iff_ne]; exact ha)
 obtain ⟨q1, q2⟩ := Nm.tdiv_bd h1 h2 hb h
 by_cases hz : a.tmod b = 0
 ·have hq : Hid (a.fdiv b = a.tdiv b) := (Nm.keep hb (.inl hz)).1
  have hz' : (a.tmod b != 0) = false := by rw [hz]; rfl
  have hw : wrap64 (a.tdiv b) = a.tdiv b := by unfold wrap64; omega
  clear hz h
  rcases he with he | ⟨he, he2⟩
  all_goals
   go_enter Tryz.func58, Tryz.ntmps58
   go_wp2
   go_ret2
   exact ⟨ret_two hq.out.symm rfl, rfl⟩
 ·have hz' : (a.tmod b != 0) = true := by rw [bne_iff_ne]; exact hz
  by_cases hs : a.tmod b < 0 ↔ b < 0
  ·have hq : Hid (a.fdiv b = a.tdiv b) := (Nm.keep hb (.inr hs)).1
   have hw : wrap64 (a.tdiv b) = a.tdiv b := by unfold wrap64; omega
   by_cases hn : b < 0
   ·have hm : a.tmod b < 0 := hs.2 hn
    clear hs hz h
    rcases he with he | ⟨he, he2⟩
    all_goals
     go_enter Tryz.func58, Tryz.ntmps58
     go_wp2
     go_ret2
     exact ⟨ret_two hq.out.symm rfl, rfl⟩
   ·have hm : ¬ a.tmod b < 0 := fun x => hn (hs.1 x)
    clear hs hz h
    rcases he with he | ⟨he, he2⟩
    all_goals
     go_enter Tryz.func58, Tryz.ntmps58
     go_wp2
     go_ret2
     exact ⟨ret_two hq.out.symm rfl, rfl⟩
  ·have hq : Hid (a.fdiv b = a.tdiv b - 1) := (Nm.down hb hz hs).1
   obtain ⟨q3, q4⟩ := Nm.tdiv_half h1 h2 (Nm.two_of_left hb hz)
   have hw : wrap64 (a.tdiv b) = a.tdiv b := by unfold wrap64; omega
   by_cases hn : b < 0
   ·have hm : ¬ a.tmod b < 0 := fun x => hs ⟨fun _ => hn, fun _ => x⟩
    clear hs hz h
    rcases he with he | ⟨he, he2⟩
    all_goals
     go_enter Tryz.func58, Tryz.ntmps58
     go_wp2
     go_ret2
     exact ⟨ret_two hq.out.symm rfl, rfl⟩
   ·have hm : a.tmod b < 0 := by
     by_cases x : a.tmod b < 0
     ·exact x
     ·exact absurd ⟨fun y => absurd y x, fun y => absurd y hn⟩ hs
    clear hs hz h
    rcases he with he | ⟨he, he2⟩
    all_goals
     go_enter Tryz.func58, Tryz.ntmps58
     go_wp2
     go_ret2
     exact ⟨ret_two hq.out.symm rfl, rfl⟩
theorem andLow (a : Nat) (ha : a < 18446744073709551616) : bits .and .u64 (a : Int) 4294967295 = ((a % 4294967296 : Nat) : Int) := by
 have h := bits_and_u64_nat a 4294967295 ha (by omega)
 rw [show a &&& 4294967295 = a % 4294967296 from Nat.and_two_pow_sub_one_eq_mod a 32] at h
 exact h
theorem castDiv (a : Nat) : (a : Int) / 4294967296 = ((a / 4294967296 : Nat) : Int) := by omega
theorem castAdd (a b : Nat) : (a : Int) + (b : Int) = ((a + b : Nat) : Int) := (Int.natCast_add a b).symm
theorem castWrap (a : Nat) (ha : a < 18446744073709551616) : IntKind.u64.wrap (a : Int) = (a : Int) := by rw [IntKind.wrap_u64]; omega
theorem sgn_of (a b : Int) : sgn (decide (a < 0) != decide (b < 0)) (a.natAbs * b.natAbs) = a * b := by
 have e : ((a.natAbs * b.natAbs : Nat) : Int) = (a.natAbs : Int) * (b.natAbs : Int) := Int.natCast_mul _ _
 unfold sgn
 rw [e]
 by_cases ha : a < 0
 ·have ea : (a.natAbs : Int) = -a := by omega
  by_cases hb : b < 0
  ·have eb : (b.natAbs : Int) = -b := by omega
   simp [ha, hb, ea, eb, Int.neg_mul, Int.mul_neg]
  ·have eb : (b.natAbs : Int) = b := by omega
   simp [ha, hb, ea, eb, Int.neg_mul]
 ·have ea : (a.natAbs : Int) = a := by omega
  by_cases hb : b < 0
  ·have eb : (b.natAbs : Int) = -b := by omega
   simp [ha, hb, ea, eb, Int.mul_neg]
  ·have eb : (b.natAbs : Int) = b := by omega
   simp [ha, hb, ea, eb]
theorem mod_in (a b : Int) (h3 : -9223372036854775808 ≤ b) (h4 : b ≤ 9223372036854775807) (hb : b ≠ 0) (w : World) :
  Calls Tryz.prog 59 #[vi ki a, vi ki b] w fun e w' => e = zr (.tuple #[vi ki (a.fmod b), vi ki 0]) ∧ w' = w := by
 have hb0 : (b == 0) = false := by rw [beq_eq_false_iff_ne]; exact hb
 have bd := Nm.tmod_bd (a := a) hb
 by_cases hz : a.tmod b = 0
 ·have hq : Hid (a.fmod b = a.tmod b) := (Nm.keep hb (.inl hz)).2
  have hz' : (a.tmod b != 0) = false := by rw [hz]; rfl
  clear hz
  go_enter Tryz.func59, Tryz.ntmps59
  go_wp2
  go_ret2
  exact ⟨ret_two hq.out.symm rfl, rfl⟩
 ·have hz' : (a.tmod b != 0) = true := by rw [bne_iff_ne]; exact hz
  by_cases hs : a.tmod b < 0 ↔ b < 0
  ·have hq : Hid (a.fmod b = a.tmod b) := (Nm.keep hb (.inr hs)).2
   by_cases hn : b < 0
   ·have hm : a.tmod b < 0 := hs.2 hn
    clear hs hz
    go_enter Tryz.func59, Tryz.ntmps59
    go_wp2
    go_ret2
    exact ⟨ret_two hq.out.symm rfl, rfl⟩
   ·have hm : ¬ a.tmod b < 0 := fun x => hn (hs.1 x)
    clear hs hz
    go_enter Tryz.func59, Tryz.ntmps59
    go_wp2
    go_ret2
    exact ⟨ret_two hq.out.symm rfl, rfl⟩
  ·have hq : Hid (a.fmod b = a.tmod b + b) := (Nm.down hb hz hs).2
   by_cases hn : b < 0
   ·have hm : ¬ a.tmod b < 0 := fun x => hs ⟨fun _ => hn, fun _ => x⟩
    have l1 : -9223372036854775808 ≤ a.tmod b + b := by omega
    have l2 : a.tmod b + b ≤ 9223372036854775807 := by omega
    clear hs hz
    go_enter Tryz.func59, Tryz.ntmps59
    go_wp2
    go_ret2
    exact ⟨ret_two hq.out.symm rfl, rfl⟩
   ·have hm : a.tmod b < 0 := by
     by_cases x : a.tmod b < 0
     ·exact x
     ·exact absurd ⟨fun y => absurd y x, fun y => absurd y hn⟩ hs
    have l1 : -9223372036854775808 ≤ a.tmod b + b := by omega
    have l2 : a.tmod b + b ≤ 9223372036854775807 := by omega
    clear hs hz
    go_enter Tryz.func59, Tryz.ntmps59
    go_wp2
    go_ret2
    exact ⟨ret_two hq.out.symm rfl, rfl⟩
theorem day_div (u : Int) : u.fdiv 86400000000 = u / 86400000000 := Int.fdiv_eq_ediv_of_nonneg u (by decide)
theorem day_mod (u : Int) : u.fmod 86400000000 = u % 86400000000 := Int.fmod_eq_emod_of_nonneg u (by decide)
theorem split_any (u : Int) (h1 : -9223372036854775808 ≤ u) (h2 : u ≤ 9223372036854775807) (w : World) :
  Calls Tryz.prog 34 #[vi ki u] w fun e w' => e = zr (.tuple #[vi ki (u / 86400000000), vi ki (u % 86400000000)]) ∧ w' = w := by
 have C1 := div_in u 86400000000 h1 h2 (by decide) (by decide) (by decide) (.inr (by decide))
 have C2 := mod_in u 86400000000 (by decide) (by decide) (by decide)
 rw [day_div] at C1
 rw [day_mod] at C2
 have H1 : Hid (∀ w : World, Calls Tryz.prog 58 #[vi ki u, vi ki 86400000000] w fun e w' => e = zr (.tuple #[vi ki (u / 86400000000), vi ki 0]) ∧ w' = w) := C1
 have H2 : Hid (∀ w : World, Calls Tryz.prog 59 #[vi ki u, vi ki 86400000000] w fun e w' => e = zr (.tuple #[vi ki (u % 86400000000), vi ki 0]) ∧ w' = w) := C2
 clear C1 C2
 go_enter Tryz.func34, Tryz.ntmps34
 go_wp2_with fail
 refine (H1.out _).mono ?_
 rintro e w1 ⟨rfl, rfl⟩
 go_wp2_with fail
 refine (H2.out _).mono ?_
 rintro e w1 ⟨rfl, rfl⟩
 go_wp2
 go_ret2
 exact ⟨rfl, rfl⟩
namespace Dv
theorem guess (u d y y1 y0 : Nat) (hy : y = y1 * 4294967296 + y0) (h0 : y0 < 4294967296) (h1 : 2147483648 ≤ y1) (hu : u < y) (hd : d < 4294967296) :
  (u * 4294967296 + d) / y ≤ u / y1 ∧ u / y1 ≤ 4294967297 ∧ u / y1 * y1 + u % y1 = u ∧ (u * 4294967296 + d) / y < 4294967296 := by
 refine ⟨?_, ?_, ?_, ?_⟩
 ·have e : u / y1 = (u * 4294967296 + d) / 4294967296 / y1 := by
   have : (u * 4294967296 + d) / 4294967296 = u := by omega
   rw [this]
  rw [e, Nat.div_div_eq_div_mul]
  exact Nat.div_le_div_left (by rw [Nat.mul_comm]; omega) (Nat.mul_pos (by omega) (by omega))
 ·have : u / y1 < 4294967298 := Nat.div_lt_of_lt_mul (by omega)
  omega
 ·rw [Nat.mul_comm]; exact Nat.div_add_mod u y1
 ·exact Nat.div_lt_of_lt_mul (by rw [Nat.mul_comm]; omega)
theorem split (q y y1 y0 : Nat) (hy : y = y1 * 4294967296 + y0) : q * y = 4294967296 * (q * y1) + q * y0 := by
 rw [hy, Nat.mul_add, ← Nat.mul_assoc, Nat.mul_comm (q * y1)]
end Dv
open Go.RowKit
theorem castDivPow (a s : Nat) : (a : Int) / 2 ^ s = ((a / 2 ^ s : Nat) : Int) := by rw [Int.natCast_ediv, Int.natCast_pow]; rfl
theorem fdiv_pp (p n : Nat) : (p : Int).fdiv (n : Int) = ((p / n : Nat) : Int) := by
 rw [Int.fdiv_eq_ediv_of_nonneg _ (by omega), Int.natCast_ediv]
theorem fdiv_np (p n : Nat) (hn : 0 < n) : (-(p : Int)).fdiv (n : Int) = if p % n = 0 then -((p / n : Nat) : Int) else -((p / n : Nat) : Int) - 1 := by
 rw [Int.fdiv_eq_ediv_of_nonneg _ (by omega)]
 have e := Nat.div_add_mod p n
 have l := Nat.mod_lt p hn
 have e' : (n : Int) * ((p / n : Nat) : Int) + ((p % n : Nat) : Int) = (p : Int) := by rw [← Int.natCast_mul, ← Int.natCast_add, e]
 by_cases h : p % n = 0
 ·rw [if_pos h]
  refine ((Int.ediv_emod_unique (r := 0) (by omega)).2 ⟨?_, by omega, by omega⟩).1
  rw [h] at e'
  rw [Int.mul_neg]
  omega
 ·rw [if_neg h]
  refine ((Int.ediv_emod_unique (r := (n : Int) - ((p % n : Nat) : Int)) (by omega)).2 ⟨?_, by omega, by omega⟩).1
  rw [Int.mul_sub, Int.mul_neg]
  omega
theorem scale_math (a b c : Int) (p n : Nat) (hp : a.natAbs * b.natAbs = p) (hn : c.natAbs = n) (hc : c ≠ 0) :
  (a * b).fdiv c = if ((decide (a < 0) != decide (b < 0)) != decide (c < 0)) = true then (if p % n = 0 then -((p / n : Nat) : Int) else -((p / n : Nat) : Int) - 1) else ((p / n : Nat) : Int) := by
 have hs := sgn_of a b
 rw [hp] at hs
 rw [← hs]
 have hn0 : 0 < n := by omega
 generalize (decide (a < 0) != decide (b < 0)) = X
 by_cases h : c < 0
 ·have ec : c = -(n : Int) := by omega
  rw [ec]
  have hd : decide (-(n : Int) < 0) = true := by rw [decide_eq_true_eq]; omega
  rw [hd]
  cases X
  ·show (p : Int).fdiv (-(n : Int)) = _
   rw [show (p : Int).fdiv (-(n : Int)) = (-(p : Int)).fdiv (n : Int) by rw [← Int.neg_fdiv_neg (p : Int) (-(n : Int)), Int.neg_neg], fdiv_np p n hn0]
   rfl
  ·show (-(p : Int)).fdiv (-(n : Int)) = _
   rw [Int.neg_fdiv_neg, fdiv_pp]
   rfl
 ·have ec : c = (n : Int) := by omega
  rw [ec]
  have hd : decide ((n : Int) < 0) = false := by rw [decide_eq_false_iff_not]; omega
  rw [hd]
  cases X
  ·show (p : Int).fdiv (n : Int) = _
   rw [fdiv_pp]
   rfl
  ·show (-(p : Int)).fdiv (n : Int) = _
   rw [fdiv_np p n hn0]
   rfl
end Go.Proofs.YtpdmndlpgjjopaaGreatDoor
namespace Go.Proofs.YtpdmndlpgjjopaaGreatDoor.Cvl
open Go.RowKit
theorem ret_int {k : IntKind} {a b : Int} (h : a = b) : Ending.returned (.int k a) = zr (.int k b) := by rw [h]
theorem ret_bool {a b : Bool} (h : a = b) : Ending.returned (.bool a) = zr (.bool b) := by rw [h]
theorem mod_up {a b : Int} (hb : 0 < b) (h : a.tmod b < 0) : a % b = a.tmod b + b := by
  have e := (Nm.down (a := a) (b := b) (by omega) (by omega) (by omega)).2
  rw [Int.fmod_eq_emod_of_nonneg _ (by omega)] at e
  exact e
theorem mod_same {a b : Int} (hb : 0 < b) (h : ¬ a.tmod b < 0) : a % b = a.tmod b := by
  have e := (Nm.keep (a := a) (b := b) (by omega) (by omega)).2
  rw [Int.fmod_eq_emod_of_nonneg _ (by omega)] at e
  exact e
theorem div_down {a b : Int} (hb : 0 < b) (h : a.tmod b < 0) : a / b = a.tdiv b - 1 := by
  have e := (Nm.down (a := a) (b := b) (by omega) (by omega) (by omega)).1
  rw [Int.fdiv_eq_ediv_of_nonneg _ (by omega)] at e
  exact e
theorem div_same {a b : Int} (hb : 0 < b) (h : ¬ a.tmod b < 0) : a / b = a.tdiv b := by
  have e := (Nm.keep (a := a) (b := b) (by omega) (by omega)).1
  rw [Int.fdiv_eq_ediv_of_nonneg _ (by omega)] at e
  exact e
theorem tz (y k : Int) (hk : 0 < k) : (y.tmod k == 0) = (y % k == 0) := by
  rw [Bool.eq_iff_iff, beq_iff_eq, beq_iff_eq]
  exact ⟨fun h => Int.emod_eq_zero_of_dvd (Int.dvd_of_tmod_eq_zero h), fun h => Int.tmod_eq_zero_of_dvd (Int.dvd_of_emod_eq_zero h)⟩
theorem rmod_any (a b : Int) (hb : 0 < b) (hb2 : b ≤ 1000000) (w : World) :
    Calls Tryz.prog 93 #[vi ki a, vi ki b] w fun e w' => e = zr (vi ki (a % b)) ∧ w' = w := by
  have bd := Nm.tmod_bd (a := a) (b := b) (by omega)
  have h0 : ¬ b = 0 := by omega
  by_cases h : a.tmod b < 0
  · have hq : Hid (a % b = a.tmod b + b) := mod_up hb h
    have l1 : -1000000 ≤ a.tmod b := by omega
    clear bd
    go_enter Tryz.func93, Tryz.ntmps93
    go_wp2
    go_ret
    exact ⟨ret_int hq.out.symm, rfl⟩
  · have hq : Hid (a % b = a.tmod b) := mod_same hb h
    clear bd
    go_enter Tryz.func93, Tryz.ntmps93
    go_wp2
    go_ret
    exact ⟨ret_int hq.out.symm, rfl⟩
theorem rdiv_any (a b : Int) (h1 : -9223372036854775808 ≤ a) (h2 : a ≤ 9223372036854775807) (hb : 2 ≤ b) (hb2 : b ≤ 1000000) (w : World) :
    Calls Tryz.prog 92 #[vi ki a, vi ki b] w fun e w' => e = zr (vi ki (a / b)) ∧ w' = w := by
  have bd := Nm.tdiv_half (a := a) (b := b) h1 h2 (by omega)
  obtain ⟨q1, q2⟩ := bd
  have h0 : ¬ b = 0 := by omega
  have hw : wrap64 (a.tdiv b) = a.tdiv b := by unfold wrap64; omega
  by_cases h : a.tmod b < 0
  · have hq : Hid (a / b = a.tdiv b - 1) := div_down (by omega) h
    go_enter Tryz.func92, Tryz.ntmps92
    go_wp2
    go_ret
    exact ⟨ret_int hq.out.symm, rfl⟩
  · have hq : Hid (a / b = a.tdiv b) := div_same (by omega) h
    go_enter Tryz.func92, Tryz.ntmps92
    go_wp2
    go_ret
    exact ⟨ret_int hq.out.symm, rfl⟩
theorem leap_of (y : Int) (a b c : Bool) (h4 : (y % 4 == 0) = a) (h100 : (y % 100 == 0) = b) (h400 : (y % 400 == 0) = c) : Cv.leap y = (a && (!b || c)) := by
  unfold Cv.leap bne; rw [h4, h100, h400]
theorem c400 (y : Int) (h4 : (y % 4 == 0) = false) : (y % 400 == 0) = false := by
  rw [beq_eq_false_iff_ne] at *; omega
theorem leap_any (y : Int) (w : World) :
    Calls Tryz.prog 108 #[vi ki y] w fun e w' => e = zr (.bool (Cv.leap y)) ∧ w' = w := by
  have t4 := tz y 4 (by decide)
  have t100 := tz y 100 (by decide)
  have t400 := tz y 400 (by decide)
  cases h4 : (y % 4 == 0) <;> cases h100 : (y % 100 == 0) <;> cases h400 : (y % 400 == 0)
  all_goals
    have hl : Hid (Cv.leap y = _) := leap_of y _ _ _ h4 h100 h400
    rw [h4] at t4
    rw [h100] at t100
    rw [h400] at t400
    have n100 : (y.tmod 100 != 0) = !(y.tmod 100 == 0) := rfl
    rw [t100] at n100
    have cc := c400 y
    go_enter Tryz.func108, Tryz.ntmps108
    go_wp2
    go_ret
    first
      | exact ⟨ret_bool (by rw [hl.out]; rfl), rfl⟩
      | exact absurd (cc h4) (by rw [h400]; decide)
theorem rleap_any (y : Int) (w : World) :
    Calls Tryz.prog 94 #[vi ki y] w fun e w' => e = zr (.bool (Cv.leap y)) ∧ w' = w := by
  cases h4 : (y % 4 == 0) <;> cases h100 : (y % 100 == 0) <;> cases h400 : (y % 400 == 0)
  all_goals
    have hl : Hid (Cv.leap y = _) := leap_of y _ _ _ h4 h100 h400
    have n100 : (y % 100 != 0) = !(y % 100 == 0) := rfl
    rw [h100] at n100
    go_enter Tryz.func94, Tryz.ntmps94
    go_wp2_with (go_at_call 93; refine (rmod_any _ _ (by decide) (by decide) _).mono ?_; rintro e w' ⟨rfl, rfl⟩)
    go_ret
    exact ⟨ret_bool (by rw [hl.out]; rfl), rfl⟩
def tabL : List Int := [31, 28, 31, 30, 31, 30, 31, 31, 30, 31, 30, 31]
def Lens (w : World) : Prop := ∀ i, i < 12 → w.cell? ⟨0, i, none⟩ = some (vi ki (tabL.getD i 0))
theorem tab_len (y m : Int) (h1 : 1 ≤ m) (h2 : m ≤ 12) (h : m ≠ 2 ∨ Cv.leap y = false) : tabL.getD (m.toNat - 1) 0 = Cv.len y m := by
  rcases Cv.twelve h1 h2 with rfl | rfl | rfl | rfl | rfl | rfl | rfl | rfl | rfl | rfl | rfl | rfl
  · rfl
  · have e : Cv.leap y = false := by rcases h with h | h; exact absurd rfl h; exact h
    have : Cv.lp y = 0 := by unfold Cv.lp; rw [e]; rfl
    show (28 : Int) = Cv.len y 2
    simp [Cv.len, this]
  all_goals rfl
theorem len_leap (y : Int) (h : Cv.leap y = true) : Cv.len y 2 = 29 := by
  have : Cv.lp y = 1 := by unfold Cv.lp; rw [h]; rfl
  simp [Cv.len, this]
theorem len_flat (y : Int) (h : Cv.leap y = false) : Cv.len y 2 = 28 := by
  have : Cv.lp y = 0 := by unfold Cv.lp; rw [h]; rfl
  simp [Cv.len, this]
theorem len_any (y m : Int) (w : World) (hw : Lens w) :
    Calls Tryz.prog 85 #[vi ki y, vi ki m] w fun e w' => e = zr (vi ki (Cv.len y m)) ∧ w' = w := by
  by_cases h1 : m < 1
  · have hl : Hid (Cv.len y m = 0) := Cv.len_out y m (.inl h1)
    go_enter Tryz.func85, Tryz.ntmps85
    go_wp2
    go_ret
    exact ⟨ret_int hl.out.symm, rfl⟩
  · by_cases h2 : 12 < m
    · have hl : Hid (Cv.len y m = 0) := Cv.len_out y m (.inr h2)
      go_enter Tryz.func85, Tryz.ntmps85
      go_wp2
      go_ret
      exact ⟨ret_int hl.out.symm, rfl⟩
    · by_cases h3 : m = 2
      · subst h3
        cases hl : Cv.leap y
        · have e : Hid (Cv.len y 2 = 28) := len_flat y hl
          have hc : w.cell? ⟨0, 1, none⟩ = some (vi ki 28) := hw 1 (by decide)
          go_enter Tryz.func85, Tryz.ntmps85
          go_wp2_with (go_at_call 108; refine (leap_any _ _).mono ?_; rintro e w' ⟨rfl, rfl⟩)
          go_ret
          exact ⟨ret_int e.out.symm, rfl⟩
        · have e : Hid (Cv.len y 2 = 29) := len_leap y hl
          go_enter Tryz.func85, Tryz.ntmps85
          go_wp2_with (go_at_call 108; refine (leap_any _ _).mono ?_; rintro e w' ⟨rfl, rfl⟩)
          go_ret
          exact ⟨ret_int e.out.symm, rfl⟩
      · have hb : (m == 2) = false := by rw [beq_eq_false_iff_ne]; exact h3
        have e : Hid (tabL.getD (m.toNat - 1) 0 = Cv.len y m) := tab_len y m (by omega) (by omega) (.inl h3)
        have hc : w.cell? ⟨0, m.toNat - 1, none⟩ = some (vi ki (tabL.getD (m.toNat - 1) 0)) := hw (m.toNat - 1) (by omega)
        generalize tabL.getD (m.toNat - 1) 0 = t at *
        go_enter Tryz.func85, Tryz.ntmps85
        go_wp2
        go_ret
        exact ⟨ret_int e.out, rfl⟩
theorem rlen_any (y m : Int) (w : World) :
    Calls Tryz.prog 95 #[vi ki y, vi ki m] w fun e w' => e = zr (vi ki (Cv.len y m)) ∧ w' = w := by
  by_cases h : 1 ≤ m ∧ m ≤ 12
  · rcases Cv.twelve h.1 h.2 with rfl | rfl | rfl | rfl | rfl | rfl | rfl | rfl | rfl | rfl | rfl | rfl
    case inr.inl =>
      cases hl : Cv.leap y
      · have e : Hid (Cv.len y 2 = 28) := len_flat y hl
        go_enter Tryz.func95, Tryz.ntmps95
        go_wp2_with (go_at_call 94; refine (rleap_any _ _).mono ?_; rintro e w' ⟨rfl, rfl⟩)
        go_ret
        exact ⟨ret_int e.out.symm, rfl⟩
      · have e : Hid (Cv.len y 2 = 29) := len_leap y hl
        go_enter Tryz.func95, Tryz.ntmps95
        go_wp2_with (go_at_call 94; refine (rleap_any _ _).mono ?_; rintro e w' ⟨rfl, rfl⟩)
        go_ret
        exact ⟨ret_int e.out.symm, rfl⟩
    all_goals
      clear h
      go_enter Tryz.func95, Tryz.ntmps95
      go_wp2
      go_ret
      exact ⟨ret_int rfl, rfl⟩
  · have e : Hid (Cv.len y m = 0) := Cv.len_out y m (by omega)
    have n1 : (m == 1) = false := by rw [beq_eq_false_iff_ne]; omega
    have n2 : (m == 2) = false := by rw [beq_eq_false_iff_ne]; omega
    have n3 : (m == 3) = false := by rw [beq_eq_false_iff_ne]; omega
    have n4 : (m == 4) = false := by rw [beq_eq_false_iff_ne]; omega
    have n5 : (m == 5) = false := by rw [beq_eq_false_iff_ne]; omega
    have n6 : (m == 6) = false := by rw [beq_eq_false_iff_ne]; omega
    have n7 : (m == 7) = false := by rw [beq_eq_false_iff_ne]; omega
    have n8 : (m == 8) = false := by rw [beq_eq_false_iff_ne]; omega
    have n9 : (m == 9) = false := by rw [beq_eq_false_iff_ne]; omega
    have n10 : (m == 10) = false := by rw [beq_eq_false_iff_ne]; omega
    have n11 : (m == 11) = false := by rw [beq_eq_false_iff_ne]; omega
    have n12 : (m == 12) = false := by rw [beq_eq_false_iff_ne]; omega
    clear h
    go_enter Tryz.func95, Tryz.ntmps95
    go_wp2
    go_ret
    exact ⟨ret_int e.out.symm, rfl⟩
def right (y m d : Int) : Bool := decide (-4718 ≤ y ∧ y ≤ 294282 ∧ 1 ≤ d ∧ d ≤ Cv.len y m)
theorem right_no {y m d : Int} (h : ¬ (-4718 ≤ y ∧ y ≤ 294282 ∧ 1 ≤ d ∧ d ≤ Cv.len y m)) : right y m d = false := decide_eq_false h
theorem right_yes {y m d : Int} (h : -4718 ≤ y ∧ y ≤ 294282 ∧ 1 ≤ d ∧ d ≤ Cv.len y m) : right y m d = true := decide_eq_true h
theorem right_mon {y m d : Int} (h : -4718 ≤ y ∧ y ≤ 294282 ∧ 1 ≤ d ∧ d ≤ Cv.len y m) : 1 ≤ m ∧ m ≤ 12 := by
  by_cases g : m < 1 ∨ 12 < m
  · have := Cv.len_out y m g; omega
  · omega
theorem right_any (y m d : Int) (w : World) (hw : Lens w) :
    Calls Tryz.prog 142 #[vi ki y, vi ki m, vi ki d] w fun e w' => e = zr (.bool (right y m d)) ∧ w' = w := by
  have H1 : Hid (∀ m, Calls Tryz.prog 85 #[vi ki y, vi ki m] w fun e w' => e = zr (vi ki (Cv.len y m)) ∧ w' = w) := fun m => len_any y m w hw
  by_cases h1 : -4718 ≤ y
  · by_cases h2 : y ≤ 294282
    · by_cases h3 : 1 ≤ d
      · by_cases h4 : d ≤ Cv.len y m
        · have e : Hid (right y m d = true) := right_yes ⟨h1, h2, h3, h4⟩
          go_enter Tryz.func142, Tryz.ntmps142
          go_wp2_with fail
          refine (H1.out _).mono ?_
          rintro e w' ⟨rfl, rfl⟩
          go_wp2
          go_ret
          exact ⟨ret_bool e.out.symm, rfl⟩
        · have e : Hid (right y m d = false) := right_no (fun h => h4 h.2.2.2)
          go_enter Tryz.func142, Tryz.ntmps142
          go_wp2_with fail
          refine (H1.out _).mono ?_
          rintro e w' ⟨rfl, rfl⟩
          go_wp2
          go_ret
          exact ⟨ret_bool (by rw [e.out]; exact decide_eq_false (by omega)), rfl⟩
      · have e : Hid (right y m d = false) := right_no (fun h => h3 h.2.2.1)
        go_enter Tryz.func142, Tryz.ntmps142
        go_wp2
        go_ret
        exact ⟨ret_bool e.out.symm, rfl⟩
    · have e : Hid (right y m d = false) := right_no (fun h => h2 h.2.1)
      go_enter Tryz.func142, Tryz.ntmps142
      go_wp2
      go_ret
      exact ⟨ret_bool e.out.symm, rfl⟩
  · have e : Hid (right y m d = false) := right_no (fun h => h1 h.1)
    go_enter Tryz.func142, Tryz.ntmps142
    go_wp2
    go_ret
    exact ⟨ret_bool e.out.symm, rfl⟩
theorem rright_any (y m d : Int) (w : World) :
    Calls Tryz.prog 86 #[vi ki y, vi ki m, vi ki d] w fun e w' => e = zr (.bool (right y m d)) ∧ w' = w := by
  have H1 : Hid (∀ m, Calls Tryz.prog 95 #[vi ki y, vi ki m] w fun e w' => e = zr (vi ki (Cv.len y m)) ∧ w' = w) := fun m => rlen_any y m w
  by_cases h1 : -4718 ≤ y
  · by_cases h2 : y ≤ 294282
    · by_cases h5 : 1 ≤ m
      · by_cases h6 : m ≤ 12
        · by_cases h3 : 1 ≤ d
          · by_cases h4 : d ≤ Cv.len y m
            · have e : Hid (right y m d = true) := right_yes ⟨h1, h2, h3, h4⟩
              go_enter Tryz.func86, Tryz.ntmps86
              go_wp2_with fail
              refine (H1.out _).mono ?_
              rintro e w' ⟨rfl, rfl⟩
              go_wp2
              go_ret
              exact ⟨ret_bool e.out.symm, rfl⟩
            · have e : Hid (right y m d = false) := right_no (fun h => h4 h.2.2.2)
              go_enter Tryz.func86, Tryz.ntmps86
              go_wp2_with fail
              refine (H1.out _).mono ?_
              rintro e w' ⟨rfl, rfl⟩
              go_wp2
              go_ret
              exact ⟨ret_bool (by rw [e.out]; exact decide_eq_false (by omega)), rfl⟩
          · have e : Hid (right y m d = false) := right_no (fun h => h3 h.2.2.1)
            go_enter Tryz.func86, Tryz.ntmps86
            go_wp2
            go_ret
            exact ⟨ret_bool e.out.symm, rfl⟩
        · have e : Hid (right y m d = false) := right_no (fun h => h6 (right_mon h).2)
          go_enter Tryz.func86, Tryz.ntmps86
          go_wp2
          go_ret
          exact ⟨ret_bool e.out.symm, rfl⟩
      · have e : Hid (right y m d = false) := right_no (fun h => h5 (right_mon h).1)
        go_enter Tryz.func86, Tryz.ntmps86
        go_wp2
        go_ret
        exact ⟨ret_bool e.out.symm, rfl⟩
    · have e : Hid (right y m d = false) := right_no (fun h => h2 h.2.1)
      go_enter Tryz.func86, Tryz.ntmps86
      go_wp2
      go_ret
      exact ⟨ret_bool e.out.symm, rfl⟩
  · have e : Hid (right y m d = false) := right_no (fun h => h1 h.1)
    go_enter Tryz.func86, Tryz.ntmps86
    go_wp2
    go_ret
    exact ⟨ret_bool e.out.symm, rfl⟩
theorem new_any (y : Int) (h1 : -4800 ≤ y) (h2 : y ≤ 1000000) (w : World) :
    Calls Tryz.prog 84 #[vi ki y] w fun e w' => e = zr (vi ki (Cv.S y)) ∧ w' = w := by
  go_enter Tryz.func84, Tryz.ntmps84
  go_wp2
  go_ret
  exact ⟨ret_int (by unfold Cv.S; omega), rfl⟩
theorem S_part (y k : Int) : Cv.S (2000 + (y - 2000) % 400) = Cv.S y - (y - 2000) / 400 * 146097 := by
  have := Cv.S_cycle (2000 + (y - 2000) % 400) ((y - 2000) / 400)
  rw [show 2000 + (y - 2000) % 400 + 400 * ((y - 2000) / 400) = y by omega] at this
  omega
theorem S_2000 : Cv.S 2000 = 0 := by decide
theorem S_bd (y : Int) (h1 : -1000000 ≤ y) (h2 : y ≤ 1000000) : -1000000000 ≤ Cv.S y ∧ Cv.S y ≤ 1000000000 := by unfold Cv.S; omega
theorem lp_true {y : Int} (h : Cv.leap y = true) : Cv.lp y = 1 := by unfold Cv.lp; rw [h]; rfl
theorem lp_false {y : Int} (h : Cv.leap y = false) : Cv.lp y = 0 := by unfold Cv.lp; rw [h]; rfl
theorem start_any (y : Int) (h1 : -1000000 ≤ y) (h2 : y ≤ 1000000) (w : World) :
    Calls Tryz.prog 109 #[vi ki y] w fun e w' => e = zr (vi ki (Cv.S y)) ∧ w' = w := by
  have hp : Hid (Cv.S (2000 + (y - 2000) % 400) = Cv.S y - (y - 2000) / 400 * 146097) := S_part y 0
  have H1 : Hid (∀ w : World, Calls Tryz.prog 92 #[vi ki (y - 2000), vi ki 400] w fun e w' => e = zr (vi ki ((y - 2000) / 400)) ∧ w' = w) := fun w => rdiv_any (y - 2000) 400 (by omega) (by omega) (by decide) (by decide) w
  have H2 : Hid (∀ w : World, Calls Tryz.prog 93 #[vi ki (y - 2000), vi ki 400] w fun e w' => e = zr (vi ki ((y - 2000) % 400)) ∧ w' = w) := fun w => rmod_any (y - 2000) 400 (by decide) (by decide) w
  have c1 : -3000 ≤ (y - 2000) / 400 := by omega
  have c2 : (y - 2000) / 400 ≤ 3000 := by omega
  have m1 : 0 ≤ (y - 2000) % 400 := by omega
  have m2 : (y - 2000) % 400 < 400 := by omega
  generalize (y - 2000) / 400 = c at *
  generalize (y - 2000) % 400 = m at *
  go_enter Tryz.func109, Tryz.ntmps109
  go_wp2_with fail
  refine (H1.out _).mono ?_
  rintro e w1 ⟨rfl, rfl⟩
  go_wp2_with fail
  go_loop [3, 4] (fun n i => ∃ k : Int, 0 ≤ k ∧ k ≤ m ∧ i = vi ki k ∧ n = vi ki (c * 146097 + Cv.S (2000 + k))) (fun _ i => (m - intOf i).toNat)
  case atStart => exact ⟨0, by omega, m1, rfl, by rw [show (2000 : Int) + 0 = 2000 by omega, S_2000]; go_num⟩
  case round =>
    obtain ⟨k, k1, k2, rfl, rfl⟩ := hrel
    have hS := Cv.S_succ (2000 + k)
    obtain ⟨s1, s2⟩ := S_bd (2000 + k) (by omega) (by omega)
    have HS : Hid (Cv.S (2000 + k + 1) = Cv.S (2000 + k) + 365 + Cv.lp (2000 + k)) := hS
    clear hS
    by_cases hlt : k < m
    · cases hl : Cv.leap (2000 + k)
      · have hp0 : Hid (Cv.lp (2000 + k) = 0) := lp_false hl
        go_wp2_with (first | (go_at_call 93; refine (H2.out _).mono ?_; rintro e w' ⟨rfl, rfl⟩) | (go_at_call 94; refine (rleap_any _ _).mono ?_; rintro e w' ⟨rfl, rfl⟩))
        go_round
        case rel => exact ⟨k + 1, by omega, by omega, rfl, by rw [show 2000 + (k + 1) = 2000 + k + 1 by omega, HS.out, hp0.out]; go_num⟩
        case measure => simp [intOf]; omega
      · have hp1 : Hid (Cv.lp (2000 + k) = 1) := lp_true hl
        go_wp2_with (first | (go_at_call 93; refine (H2.out _).mono ?_; rintro e w' ⟨rfl, rfl⟩) | (go_at_call 94; refine (rleap_any _ _).mono ?_; rintro e w' ⟨rfl, rfl⟩))
        go_round
        case rel => exact ⟨k + 1, by omega, by omega, rfl, by rw [show 2000 + (k + 1) = 2000 + k + 1 by omega, HS.out, hp1.out]; go_num⟩
        case measure => simp [intOf]; omega
    · have ek : Hid (k = m) := by show k = m; omega
      go_wp2_with (go_at_call 93; refine (H2.out _).mono ?_; rintro e w' ⟨rfl, rfl⟩)
      go_ret
      exact ⟨ret_int (by have := hp.out; rw [← ek.out] at this; omega), rfl⟩
theorem rday_any (y m d : Int) (h1 : -1000000 ≤ y) (h2 : y ≤ 1000000) (m1 : 1 ≤ m) (m2 : m ≤ 12) (d1 : 1 ≤ d) (d2 : d ≤ 31) (w : World) :
    Calls Tryz.prog 87 #[vi ki y, vi ki m, vi ki d] w fun e w' => e = zr (vi ki (Cv.S y + Cv.cum y m + d - 1)) ∧ w' = w := by
  obtain ⟨s1, s2⟩ := S_bd y h1 h2
  go_enter Tryz.func87, Tryz.ntmps87
  go_wp2_with fail
  refine (start_any y h1 h2 _).mono ?_
  rintro e w1 ⟨rfl, rfl⟩
  go_wp2_with fail
  go_loop [7, 8] (fun n i => ∃ k : Int, 1 ≤ k ∧ k ≤ m ∧ i = vi ki k ∧ n = vi ki (Cv.S y + Cv.cum y k + d - 1)) (fun _ i => (m - intOf i).toNat)
  case atStart => exact ⟨1, by omega, m1, rfl, by rw [Cv.cum_one]; go_num⟩
  case round =>
    obtain ⟨k, k1, k2, rfl, rfl⟩ := hrel
    obtain ⟨c1, c2⟩ := Cv.cum_bd y k
    by_cases hlt : k < m
    · have hc : Hid (Cv.cum y (k + 1) = Cv.cum y k + Cv.len y k) := Cv.cum_succ y k k1 (by omega)
      obtain ⟨l1, l2⟩ := Cv.len_bd y k
      go_wp2_with (go_at_call 95; refine (rlen_any _ _ _).mono ?_; rintro e w' ⟨rfl, rfl⟩)
      go_round
      case rel => exact ⟨k + 1, by omega, by omega, rfl, by rw [hc.out]; go_num⟩
      case measure => simp [intOf]; omega
    · have ek : Hid (k = m) := by show k = m; omega
      go_wp2
      go_ret
      exact ⟨ret_int (by rw [← ek.out]), rfl⟩
theorem S_first : Cv.S (-4718) = -2453698 := by decide
theorem S_last : Cv.S 294283 = 106754174 := by decide
theorem first_any (w : World) : Calls Tryz.prog 106 #[] w fun e w' => e = zr (vi ki (-2453698)) ∧ w' = w := by
  have H1 : Hid (∀ w : World, Calls Tryz.prog 84 #[vi ki (-4718)] w fun e w' => e = zr (vi ki (-2453698)) ∧ w' = w) := by
    intro w; rw [← S_first]; exact new_any (-4718) (by decide) (by decide) w
  go_enter Tryz.func106, Tryz.ntmps106
  go_wp2_with fail
  refine (H1.out _).mono ?_
  rintro e w' ⟨rfl, rfl⟩
  go_wp2
  go_ret
  exact ⟨rfl, rfl⟩
theorem last_any (w : World) : Calls Tryz.prog 107 #[] w fun e w' => e = zr (vi ki 106754173) ∧ w' = w := by
  have H1 : Hid (∀ w : World, Calls Tryz.prog 84 #[vi ki 294283] w fun e w' => e = zr (vi ki 106754174) ∧ w' = w) := by
    intro w; rw [← S_last]; exact new_any 294283 (by decide) (by decide) w
  go_enter Tryz.func107, Tryz.ntmps107
  go_wp2_with fail
  refine (H1.out _).mono ?_
  rintro e w' ⟨rfl, rfl⟩
  go_wp2
  go_ret
  exact ⟨rfl, rfl⟩
theorem d_first : Cv.S (-4718) + Cv.cum (-4718) 1 + 1 - 1 = -2453698 := by decide
theorem d_last : Cv.S 294282 + Cv.cum 294282 12 + 31 - 1 = 106754173 := by decide
theorem rfirst_any (w : World) : Calls Tryz.prog 111 #[] w fun e w' => e = zr (vi ki (-2453698)) ∧ w' = w := by
  have H1 : Hid (∀ w : World, Calls Tryz.prog 87 #[vi ki (-4718), vi ki 1, vi ki 1] w fun e w' => e = zr (vi ki (-2453698)) ∧ w' = w) := by
    intro w; rw [← d_first]; exact rday_any (-4718) 1 1 (by decide) (by decide) (by decide) (by decide) (by decide) (by decide) w
  go_enter Tryz.func111, Tryz.ntmps111
  go_wp2_with fail
  refine (H1.out _).mono ?_
  rintro e w' ⟨rfl, rfl⟩
  go_wp2
  go_ret
  exact ⟨rfl, rfl⟩
theorem rlast_any (w : World) : Calls Tryz.prog 112 #[] w fun e w' => e = zr (vi ki 106754173) ∧ w' = w := by
  have H1 : Hid (∀ w : World, Calls Tryz.prog 87 #[vi ki 294282, vi ki 12, vi ki 31] w fun e w' => e = zr (vi ki 106754173) ∧ w' = w) := by
    intro w; rw [← d_last]; exact rday_any 294282 12 31 (by decide) (by decide) (by decide) (by decide) (by decide) (by decide) w
  go_enter Tryz.func112, Tryz.ntmps112
  go_wp2_with fail
  refine (H1.out _).mono ?_
  rintro e w' ⟨rfl, rfl⟩
  go_wp2
  go_ret
  exact ⟨rfl, rfl⟩
def can (n : Int) : Bool := decide (-2453698 ≤ n ∧ n ≤ 106754173)
theorem can_yes {n : Int} (h1 : -2453698 ≤ n) (h2 : n ≤ 106754173) : can n = true := decide_eq_true ⟨h1, h2⟩
theorem can_no {n : Int} (h : n < -2453698 ∨ 106754173 < n) : can n = false := decide_eq_false (by omega)
theorem can_any (n : Int) (w : World) : Calls Tryz.prog 82 #[vi ki n] w fun e w' => e = zr (.bool (can n)) ∧ w' = w := by
  by_cases h1 : -2453698 ≤ n
  · by_cases h2 : n ≤ 106754173
    · have e : Hid (can n = true) := can_yes h1 h2
      go_enter Tryz.func82, Tryz.ntmps82
      go_wp2_with (first | (go_at_call 106; refine (first_any _).mono ?_; rintro e w' ⟨rfl, rfl⟩) | (go_at_call 107; refine (last_any _).mono ?_; rintro e w' ⟨rfl, rfl⟩))
      go_ret
      exact ⟨ret_bool e.out.symm, rfl⟩
    · have e : Hid (can n = false) := can_no (by omega)
      go_enter Tryz.func82, Tryz.ntmps82
      go_wp2_with (first | (go_at_call 106; refine (first_any _).mono ?_; rintro e w' ⟨rfl, rfl⟩) | (go_at_call 107; refine (last_any _).mono ?_; rintro e w' ⟨rfl, rfl⟩))
      go_ret
      exact ⟨ret_bool (by rw [e.out]; first | rfl | exact decide_eq_false (by omega)), rfl⟩
  · have e : Hid (can n = false) := can_no (by omega)
    go_enter Tryz.func82, Tryz.ntmps82
    go_wp2_with (first | (go_at_call 106; refine (first_any _).mono ?_; rintro e w' ⟨rfl, rfl⟩) | (go_at_call 107; refine (last_any _).mono ?_; rintro e w' ⟨rfl, rfl⟩))
    go_ret
    exact ⟨ret_bool (by rw [e.out]), rfl⟩
theorem rcan_any (n : Int) (w : World) : Calls Tryz.prog 91 #[vi ki n] w fun e w' => e = zr (.bool (can n)) ∧ w' = w := by
  by_cases h1 : -2453698 ≤ n
  · by_cases h2 : n ≤ 106754173
    · have e : Hid (can n = true) := can_yes h1 h2
      go_enter Tryz.func91, Tryz.ntmps91
      go_wp2_with (first | (go_at_call 111; refine (rfirst_any _).mono ?_; rintro e w' ⟨rfl, rfl⟩) | (go_at_call 112; refine (rlast_any _).mono ?_; rintro e w' ⟨rfl, rfl⟩))
      go_ret
      exact ⟨ret_bool e.out.symm, rfl⟩
    · have e : Hid (can n = false) := can_no (by omega)
      go_enter Tryz.func91, Tryz.ntmps91
      go_wp2_with (first | (go_at_call 111; refine (rfirst_any _).mono ?_; rintro e w' ⟨rfl, rfl⟩) | (go_at_call 112; refine (rlast_any _).mono ?_; rintro e w' ⟨rfl, rfl⟩))
      go_ret
      exact ⟨ret_bool (by rw [e.out]; first | rfl | exact decide_eq_false (by omega)), rfl⟩
  · have e : Hid (can n = false) := can_no (by omega)
    go_enter Tryz.func91, Tryz.ntmps91
    go_wp2_with (first | (go_at_call 111; refine (rfirst_any _).mono ?_; rintro e w' ⟨rfl, rfl⟩) | (go_at_call 112; refine (rlast_any _).mono ?_; rintro e w' ⟨rfl, rfl⟩))
    go_ret
    exact ⟨ret_bool (by rw [e.out]), rfl⟩
theorem guess2 (n y : Int) (h1 : -2453698 - 7 ≤ n) (h2 : n ≤ 106754173 + 7) (h3 : y = -4800 + (n + 2483649) * 400 / 146097) :
    Cv.S (y - 1) ≤ n ∧ n < Cv.S (y + 2) ∧ -4720 ≤ y ∧ y ≤ 294290 := by
  unfold Cv.S; omega
theorem yearOf_any (n y : Int) (h1 : -2453698 - 7 ≤ n) (h2 : n ≤ 106754173 + 7) (y1 : Cv.S y ≤ n) (y2 : n < Cv.S (y + 1)) (w : World) :
    Calls Tryz.prog 83 #[vi ki n] w fun e w' => e = zr (vi ki y) ∧ w' = w := by
  obtain ⟨z, hz⟩ : ∃ z, z = -4800 + (n + 2483649) * 400 / 146097 := ⟨_, rfl⟩
  obtain ⟨g1, g2, g3, g4⟩ := guess2 n z h1 h2 hz
  have e0 : Hid (z = -4800 + (n + 2483649) * 400 / 146097) := hz
  have e1 : -4800 + (n + 2483649) * 400 / 146097 = z := hz.symm
  clear hz
  by_cases a : n < Cv.S z
  · have ey : Hid (y = z - 1) := Cv.year_one y1 y2 g1 (by rw [show z - 1 + 1 = z by omega]; exact a)
    clear g1 g2 y1 y2
    go_enter Tryz.func83, Tryz.ntmps83
    go_wp2_with (go_at_call 84; refine (new_any _ (by omega) (by omega) _).mono ?_; rintro e w' ⟨rfl, rfl⟩)
    go_ret
    exact ⟨ret_int ey.out.symm, rfl⟩
  · by_cases b : Cv.S (z + 1) ≤ n
    · have ey : Hid (y = z + 1) := Cv.year_one y1 y2 b (by rw [show z + 1 + 1 = z + 2 by omega]; exact g2)
      clear g1 g2 y1 y2
      go_enter Tryz.func83, Tryz.ntmps83
      go_wp2_with (go_at_call 84; refine (new_any _ (by omega) (by omega) _).mono ?_; rintro e w' ⟨rfl, rfl⟩)
      go_ret
      exact ⟨ret_int ey.out.symm, rfl⟩
    · have ey : Hid (y = z) := Cv.year_one y1 y2 (by omega) (by omega)
      clear g1 g2 y1 y2
      go_enter Tryz.func83, Tryz.ntmps83
      go_wp2_with (go_at_call 84; refine (new_any _ (by omega) (by omega) _).mono ?_; rintro e w' ⟨rfl, rfl⟩)
      go_ret
      exact ⟨ret_int ey.out.symm, rfl⟩
theorem of_right {y m d : Int} (h : right y m d = true) : -4718 ≤ y ∧ y ≤ 294282 ∧ 1 ≤ d ∧ d ≤ Cv.len y m := of_decide_eq_true h
theorem days_no (y m d : Int) (h : right y m d = false) (w : World) (hw : Lens w) :
    Calls Tryz.prog 133 #[vi ki y, vi ki m, vi ki d] w fun e w' => e = zr (.tuple #[vi ki 0, vi ki 10]) ∧ w' = w := by
  go_enter Tryz.func133, Tryz.ntmps133
  go_wp2_with (go_at_call 142; refine (right_any _ _ _ _ hw).mono ?_; rintro e w' ⟨rfl, rfl⟩)
  go_ret2
  exact ⟨rfl, rfl⟩
theorem rdays_no (y m d : Int) (h : right y m d = false) (w : World) :
    Calls Tryz.prog 65 #[vi ki y, vi ki m, vi ki d] w fun e w' => e = zr (.tuple #[vi ki 0, vi ki 10]) ∧ w' = w := by
  go_enter Tryz.func65, Tryz.ntmps65
  go_wp2_with (go_at_call 86; refine (rright_any _ _ _ _).mono ?_; rintro e w' ⟨rfl, rfl⟩)
  go_ret2
  exact ⟨rfl, rfl⟩
theorem rdays_yes (y m d : Int) (h : right y m d = true) (w : World) :
    Calls Tryz.prog 65 #[vi ki y, vi ki m, vi ki d] w fun e w' => e = zr (.tuple #[vi ki (Cv.S y + Cv.cum y m + d - 1), vi ki 0]) ∧ w' = w := by
  obtain ⟨y1, y2, d1, d2⟩ := of_right h
  obtain ⟨m1, m2⟩ := right_mon ⟨y1, y2, d1, d2⟩
  have l := (Cv.len_bd y m).2
  have H1 : Hid (∀ w : World, Calls Tryz.prog 87 #[vi ki y, vi ki m, vi ki d] w fun e w' => e = zr (vi ki (Cv.S y + Cv.cum y m + d - 1)) ∧ w' = w) := fun w => rday_any y m d (by omega) (by omega) m1 m2 d1 (by omega) w
  generalize Cv.S y + Cv.cum y m + d - 1 = n at *
  clear d2 l
  go_enter Tryz.func65, Tryz.ntmps65
  go_wp2_with (first | (go_at_call 86; refine (rright_any _ _ _ _).mono ?_; rintro e w' ⟨rfl, rfl⟩) | (go_at_call 87; refine (H1.out _).mono ?_; rintro e w' ⟨rfl, rfl⟩))
  go_ret2
  exact ⟨rfl, rfl⟩
theorem days_yes (y m d : Int) (h : right y m d = true) (w : World) (hw : Lens w) :
    Calls Tryz.prog 133 #[vi ki y, vi ki m, vi ki d] w fun e w' => e = zr (.tuple #[vi ki (Cv.S y + Cv.cum y m + d - 1), vi ki 0]) ∧ w' = w := by
  obtain ⟨y1, y2, d1, d2⟩ := of_right h
  obtain ⟨m1, m2⟩ := right_mon ⟨y1, y2, d1, d2⟩
  have l := (Cv.len_bd y m).2
  have d3 : d ≤ 31 := by omega
  obtain ⟨s1, s2⟩ := S_bd y (by omega) (by omega)
  clear d2 l
  go_enter Tryz.func133, Tryz.ntmps133
  go_wp2_with (first | (go_at_call 142; refine (right_any _ _ _ _ hw).mono ?_; rintro e w' ⟨rfl, rfl⟩) | (go_at_call 84; refine (new_any _ (by omega) (by omega) _).mono ?_; rintro e w' ⟨rfl, rfl⟩))
  go_loop [8, 19] (fun n i => ∃ k : Int, 0 ≤ k ∧ k ≤ m - 1 ∧ i = vi ki k ∧ n = vi ki (Cv.S y + Cv.cum y (k + 1))) (fun _ i => (m - intOf i).toNat)
  case atStart => exact ⟨0, by omega, by omega, rfl, by rw [show (0 : Int) + 1 = 1 by omega, Cv.cum_one]; go_num⟩
  case round =>
    obtain ⟨k, k1, k2, rfl, rfl⟩ := hrel
    obtain ⟨c1, c2⟩ := Cv.cum_bd y (k + 1)
    by_cases hlt : k < m - 1
    · have hc : Hid (Cv.cum y (k + 1 + 1) = Cv.cum y (k + 1) + Cv.len y (k + 1)) := Cv.cum_succ y (k + 1) (by omega) (by omega)
      obtain ⟨l1, l2⟩ := Cv.len_bd y (k + 1)
      go_wp2_with (go_at_call 85; refine (len_any _ _ _ hw).mono ?_; rintro e w' ⟨rfl, rfl⟩)
      go_round
      case rel => exact ⟨k + 1, by omega, by omega, rfl, by rw [hc.out]; go_num⟩
      case measure => simp [intOf]; omega
    · have ek : Hid (k + 1 = m) := by show k + 1 = m; omega
      go_wp2
      go_ret2
      exact ⟨by rw [ek.out]; rfl, rfl⟩
theorem ret_four {a b c d a' b' c' d' : Int} (h1 : a = a') (h2 : b = b') (h3 : c = c') (h4 : d = d') : Ending.returned (.tuple #[vi ki a, vi ki b, vi ki c, vi ki d]) = zr (.tuple #[vi ki a', vi ki b', vi ki c', vi ki d']) := by rw [h1, h2, h3, h4]
theorem date_no (n : Int) (h : can n = false) (w : World) :
    Calls Tryz.prog 60 #[vi ki n] w fun e w' => e = zr (.tuple #[vi ki 0, vi ki 0, vi ki 0, vi ki 10]) ∧ w' = w := by
  go_enter Tryz.func60, Tryz.ntmps60
  go_wp2_with (go_at_call 82; refine (can_any _ _).mono ?_; rintro e w' ⟨rfl, rfl⟩)
  exact bodyPost_ret (v := .tuple #[vi ki 0, vi ki 0, vi ki 0, vi ki 10]) (by simp [results, Tryz.results60, go_sem]) rfl ⟨rfl, rfl⟩
theorem rdate_no (n : Int) (h : can n = false) (w : World) :
    Calls Tryz.prog 76 #[vi ki n] w fun e w' => e = zr (.tuple #[vi ki 0, vi ki 0, vi ki 0, vi ki 10]) ∧ w' = w := by
  go_enter Tryz.func76, Tryz.ntmps76
  go_wp2_with (go_at_call 91; refine (rcan_any _ _).mono ?_; rintro e w' ⟨rfl, rfl⟩)
  exact bodyPost_ret (v := .tuple #[vi ki 0, vi ki 0, vi ki 0, vi ki 10]) (by simp [results, Tryz.results76, go_sem]) rfl ⟨rfl, rfl⟩
theorem of_can {n : Int} (h : can n = true) : -2453698 ≤ n ∧ n ≤ 106754173 := of_decide_eq_true h
theorem can_year {n y : Int} (h1 : -2453698 ≤ n) (h2 : n ≤ 106754173) (y1 : Cv.S y ≤ n) (y2 : n < Cv.S (y + 1)) : -4718 ≤ y ∧ y ≤ 294282 := by
  have a := S_first
  have b := S_last
  have c : -4718 < y + 1 := Cv.S_lt (by omega)
  have d : y < 294283 := Cv.S_lt (by omega)
  omega
theorem not_rest {n y m d k : Int} (h : Cv.Is n y m d) (k1 : 1 ≤ k) (k2 : k < m) : Cv.cum y (k + 1) ≤ n - Cv.S y := by
  obtain ⟨m1, m2, d1, d2, e⟩ := h
  have := Cv.cum_mono (y := y) (a := k + 1) (b := m) (by omega) (by omega) (by omega)
  omega
theorem is_rest {n y m d : Int} (h : Cv.Is n y m d) : n - Cv.S y < Cv.cum y (m + 1) := by
  obtain ⟨m1, m2, d1, d2, e⟩ := h
  have := Cv.cum_succ y m m1 m2
  omega
theorem date_yes (n y m d : Int) (h : can n = true) (hd : Cv.Is n y m d) (w : World) (hw : Lens w) :
    Calls Tryz.prog 60 #[vi ki n] w fun e w' => e = zr (.tuple #[vi ki y, vi ki m, vi ki d, vi ki 0]) ∧ w' = w := by
  obtain ⟨n1, n2⟩ := of_can h
  obtain ⟨a1, a2⟩ := Cv.is_year hd
  obtain ⟨y1, y2⟩ := can_year n1 n2 a1 a2
  obtain ⟨s1, s2⟩ := S_bd y (by omega) (by omega)
  have m1 := hd.1
  have m2 := hd.2.1
  have ed : Hid (n = Cv.S y + Cv.cum y m + d - 1) := hd.2.2.2.2
  have HD : Hid (Cv.Is n y m d) := hd
  have H1 : Hid (∀ w : World, Calls Tryz.prog 83 #[vi ki n] w fun e w' => e = zr (vi ki y) ∧ w' = w) := fun w => yearOf_any n y (by omega) (by omega) a1 a2 w
  clear hd a2
  go_enter Tryz.func60, Tryz.ntmps60
  go_wp2_with (first | (go_at_call 82; refine (can_any _ _).mono ?_; rintro e w' ⟨rfl, rfl⟩) | (go_at_call 83; refine (H1.out _).mono ?_; rintro e w' ⟨rfl, rfl⟩) | (go_at_call 84; refine (new_any _ (by omega) (by omega) _).mono ?_; rintro e w' ⟨rfl, rfl⟩))
  go_loop [7, 8, 18] (fun p r i => ∃ k : Int, 1 ≤ k ∧ k ≤ m ∧ i = vi ki (k - 1) ∧ p = vi ki k ∧ r = vi ki (n - Cv.S y - Cv.cum y k)) (fun p _ _ => (m - intOf p).toNat)
  case atStart => exact ⟨1, by omega, m1, rfl, rfl, by rw [Cv.cum_one]; go_num⟩
  case round =>
    obtain ⟨k, k1, k2, rfl, rfl, rfl⟩ := hrel
    obtain ⟨c1, c2⟩ := Cv.cum_bd y k
    obtain ⟨l1, l2⟩ := Cv.len_bd y k
    have hc := Cv.cum_succ y k k1 (by omega)
    by_cases hlt : k < m
    · have g := not_rest HD.out k1 hlt
      have t1 : ¬ n - Cv.S y - Cv.cum y k < Cv.len y k := by omega
      have HC : Hid (Cv.cum y (k + 1) = Cv.cum y k + Cv.len y k) := hc
      clear hc g
      go_wp2_with (go_at_call 85; refine (len_any _ _ _ hw).mono ?_; rintro e w' ⟨rfl, rfl⟩)
      go_round
      case rel => exact ⟨k + 1, by omega, by omega, by go_num, rfl, by rw [HC.out]; go_num⟩
      case measure => simp [intOf]; omega
    · obtain rfl : k = m := by omega
      have g := is_rest HD.out
      have t1 : n - Cv.S y - Cv.cum y k < Cv.len y k := by omega
      clear hc g
      by_cases h12 : k - 1 < 11
      · go_wp2_with (go_at_call 85; refine (len_any _ _ _ hw).mono ?_; rintro e w' ⟨rfl, rfl⟩)
        refine bodyPost_ret (v := .tuple #[vi ki y, vi ki k, vi ki (n - Cv.S y - Cv.cum y k + 1), vi ki 0]) (by simp [results, Tryz.results60, go_sem]) rfl ⟨?_, rfl⟩
        exact ret_four rfl rfl (by have := ed.out; omega) rfl
      · go_wp2
        refine bodyPost_ret (v := .tuple #[vi ki y, vi ki k, vi ki (n - Cv.S y - Cv.cum y k + 1), vi ki 0]) (by simp [results, Tryz.results60, go_sem]) rfl ⟨?_, rfl⟩
        exact ret_four rfl rfl (by have := ed.out; omega) rfl
theorem S_zero (c : Int) : Cv.S (2000 + c * 400) = c * 146097 := by
  have := Cv.S_cycle 2000 c
  rw [S_2000, show 2000 + 400 * c = 2000 + c * 400 by omega] at this
  omega
theorem rdate_yes (n y m d : Int) (h : can n = true) (hd : Cv.Is n y m d) (w : World) :
    Calls Tryz.prog 76 #[vi ki n] w fun e w' => e = zr (.tuple #[vi ki y, vi ki m, vi ki d, vi ki 0]) ∧ w' = w := by
  obtain ⟨n1, n2⟩ := of_can h
  obtain ⟨a1, a2⟩ := Cv.is_year hd
  obtain ⟨y1, y2⟩ := can_year n1 n2 a1 a2
  obtain ⟨s1, s2⟩ := S_bd y (by omega) (by omega)
  have m1 := hd.1
  have m2 := hd.2.1
  have ed : Hid (n = Cv.S y + Cv.cum y m + d - 1) := hd.2.2.2.2
  have HD : Hid (Cv.Is n y m d) := hd
  have A : Hid (Cv.S y ≤ n ∧ n < Cv.S (y + 1)) := ⟨a1, a2⟩
  have hz := S_zero (n / 146097)
  have hm : n % 146097 = n - Cv.S (2000 + n / 146097 * 400) := by omega
  have b0 : Cv.S (2000 + n / 146097 * 400) ≤ n := by omega
  have b1 : 2000 + n / 146097 * 400 ≤ y := by
    have := Cv.S_lt (y := 2000 + n / 146097 * 400) (z := y + 1) (by omega)
    omega
  have q1 : -20 ≤ n / 146097 := by omega
  have q2 : n / 146097 ≤ 800 := by omega
  have H1 : Hid (∀ w : World, Calls Tryz.prog 92 #[vi ki n, vi ki 146097] w fun e w' => e = zr (vi ki (n / 146097)) ∧ w' = w) := fun w => rdiv_any n 146097 (by omega) (by omega) (by decide) (by decide) w
  have H2 : Hid (∀ w : World, Calls Tryz.prog 93 #[vi ki n, vi ki 146097] w fun e w' => e = zr (vi ki (n - Cv.S (2000 + n / 146097 * 400))) ∧ w' = w) := by
    intro w; rw [← hm]; exact rmod_any n 146097 (by decide) (by decide) w
  generalize n / 146097 = c at *
  clear hd a1 a2 hz hm
  go_enter Tryz.func76, Tryz.ntmps76
  go_wp2_with (first | (go_at_call 91; refine (rcan_any _ _).mono ?_; rintro e w' ⟨rfl, rfl⟩) | (go_at_call 92; refine (H1.out _).mono ?_; rintro e w' ⟨rfl, rfl⟩) | (go_at_call 93; refine (H2.out _).mono ?_; rintro e w' ⟨rfl, rfl⟩))
  go_loop [6, 7] (fun p r => ∃ z : Int, -6000 ≤ z ∧ z ≤ y ∧ Cv.S z ≤ n ∧ p = vi ki z ∧ r = vi ki (n - Cv.S z)) (fun p _ => (y - intOf p).toNat)
  case atStart => exact ⟨2000 + c * 400, by omega, b1, b0, rfl, rfl⟩
  case round =>
    obtain ⟨z, z0, z1, z2, rfl, rfl⟩ := hrel
    clear b0 b1 q1 q2
    obtain ⟨t1, t2⟩ := S_bd z (by omega) (by omega)
    have hs := Cv.S_succ z
    by_cases hlt : z < y
    · have g : Cv.S (z + 1) ≤ n := Int.le_trans (Cv.S_mono (by omega)) A.out.1
      have HS : Hid (Cv.S (z + 1) = Cv.S z + 365 + Cv.lp z ∧ Cv.S (z + 1) ≤ n) := ⟨hs, g⟩
      cases hl : Cv.leap z
      · have e0 : Hid (Cv.lp z = 0) := lp_false hl
        have t3 : ¬ n - Cv.S z < 365 := by have := e0.out; omega
        clear hs g
        go_wp2_with (go_at_call 94; refine (rleap_any _ _).mono ?_; rintro e w' ⟨rfl, rfl⟩)
        go_round
        case rel => exact ⟨z + 1, by omega, by omega, HS.out.2, rfl, by rw [HS.out.1, e0.out]; go_num⟩
        case measure => simp [intOf]; omega
      · have e0 : Hid (Cv.lp z = 1) := lp_true hl
        have t3 : ¬ n - Cv.S z < 366 := by have := e0.out; omega
        clear hs g
        go_wp2_with (go_at_call 94; refine (rleap_any _ _).mono ?_; rintro e w' ⟨rfl, rfl⟩)
        go_round
        case rel => exact ⟨z + 1, by omega, by omega, HS.out.2, rfl, by rw [HS.out.1, e0.out]; go_num⟩
        case measure => simp [intOf]; omega
    · obtain rfl : z = y := by omega
      have g := A.out.2
      have t3 : n - Cv.S z < 365 + Cv.lp z := by omega
      have lb := Cv.lp_01 z
      cases hl : Cv.leap z
      all_goals
        first
          | (have e0 : Cv.lp z = 0 := lp_false hl; have t4 : n - Cv.S z < 365 := by omega
             clear e0)
          | (have e0 : Cv.lp z = 1 := lp_true hl; have t4 : n - Cv.S z < 366 := by omega
             clear e0)
        clear hs g t3 lb
        go_wp2_with (go_at_call 94; refine (rleap_any _ _).mono ?_; rintro e w' ⟨rfl, rfl⟩)
        go_loop [9, 7] (fun p r => ∃ k : Int, 1 ≤ k ∧ k ≤ m ∧ p = vi ki k ∧ r = vi ki (n - Cv.S z - Cv.cum z k)) (fun p _ => (m - intOf p).toNat)
        case atStart => exact ⟨1, by omega, m1, rfl, by rw [Cv.cum_one]; go_num⟩
        case round =>
          obtain ⟨k, k1, k2, rfl, rfl⟩ := hrel
          obtain ⟨c1, c2⟩ := Cv.cum_bd z k
          obtain ⟨l1, l2⟩ := Cv.len_bd z k
          have hc := Cv.cum_succ z k k1 (by omega)
          by_cases hlt : k < m
          · have g := not_rest HD.out k1 hlt
            have t5 : Cv.len z k ≤ n - Cv.S z - Cv.cum z k := by omega
            have HC : Hid (Cv.cum z (k + 1) = Cv.cum z k + Cv.len z k) := hc
            clear hc g
            go_wp2_with (go_at_call 95; refine (rlen_any _ _ _).mono ?_; rintro e w' ⟨rfl, rfl⟩)
            go_round
            case rel => exact ⟨k + 1, by omega, by omega, rfl, by rw [HC.out]; go_num⟩
            case measure => simp [intOf]; omega
          · obtain rfl : k = m := by omega
            have g := is_rest HD.out
            have t5 : ¬ Cv.len z k ≤ n - Cv.S z - Cv.cum z k := by omega
            clear hc g
            go_wp2_with (go_at_call 95; refine (rlen_any _ _ _).mono ?_; rintro e w' ⟨rfl, rfl⟩)
            refine bodyPost_ret (v := .tuple #[vi ki z, vi ki k, vi ki (n - Cv.S z - Cv.cum z k + 1), vi ki 0]) (by simp [results, Tryz.results76, go_sem]) rfl ⟨?_, rfl⟩
            exact ret_four rfl rfl (by have := ed.out; omega) rfl
theorem wd_t (n : Int) : (n.tmod 7 + 7 + 6) % 7 = (n + 6) % 7 ∧ -6 ≤ n.tmod 7 ∧ n.tmod 7 ≤ 6 := by
  have bd := Nm.tmod_bd (a := n) (b := 7) (by decide)
  by_cases h : n.tmod 7 < 0
  · have := mod_up (a := n) (b := 7) (by decide) h; omega
  · have := mod_same (a := n) (b := 7) (by decide) h; omega
theorem weekday_any (n : Int) (w : World) :
    Calls Tryz.prog 147 #[vi ki n] w fun e w' => e = zr (vi ki ((n + 6) % 7)) ∧ w' = w := by
  obtain ⟨e1, l1, l2⟩ := wd_t n
  have E1 : Hid ((n.tmod 7 + 7 + 6) % 7 = (n + 6) % 7) := e1
  clear e1
  go_enter Tryz.func147, Tryz.ntmps147
  go_wp2
  go_ret
  exact ⟨ret_int (by have := E1.out; omega), rfl⟩
def dayV (y m d : Int) : Int := if right y m d = true then Cv.S y + Cv.cum y m + d - 1 else 0
def dayE (y m d : Int) : Int := if right y m d = true then 0 else 10
theorem day_no {y m d : Int} (h : right y m d = false) : dayV y m d = 0 ∧ dayE y m d = 10 := by unfold dayV dayE; rw [h]; exact ⟨rfl, rfl⟩
theorem day_yes {y m d : Int} (h : right y m d = true) : dayV y m d = Cv.S y + Cv.cum y m + d - 1 ∧ dayE y m d = 0 := by unfold dayV dayE; rw [h]; exact ⟨rfl, rfl⟩
theorem days_any (y m d : Int) (w : World) (hw : Lens w) :
    Calls Tryz.prog 133 #[vi ki y, vi ki m, vi ki d] w fun e w' => e = zr (.tuple #[vi ki (dayV y m d), vi ki (dayE y m d)]) ∧ w' = w := by
  cases h : right y m d
  · rw [(day_no h).1, (day_no h).2]; exact days_no y m d h w hw
  · rw [(day_yes h).1, (day_yes h).2]; exact days_yes y m d h w hw
theorem rdays_any (y m d : Int) (w : World) :
    Calls Tryz.prog 65 #[vi ki y, vi ki m, vi ki d] w fun e w' => e = zr (.tuple #[vi ki (dayV y m d), vi ki (dayE y m d)]) ∧ w' = w := by
  cases h : right y m d
  · rw [(day_no h).1, (day_no h).2]; exact rdays_no y m d h w
  · rw [(day_yes h).1, (day_yes h).2]; exact rdays_yes y m d h w
def cut (d l : Int) : Int := if d ≤ l then d else l
theorem cut_le {d l : Int} (h : d ≤ l) : cut d l = d := if_pos h
theorem cut_gt {d l : Int} (h : ¬ d ≤ l) : cut d l = l := if_neg h
def shV (y m d k : Int) : Int := dayV ((12 * y + m - 1 + k) / 12) ((12 * y + m - 1 + k) % 12 + 1) (cut d (Cv.len ((12 * y + m - 1 + k) / 12) ((12 * y + m - 1 + k) % 12 + 1)))
def shE (y m d k : Int) : Int := dayE ((12 * y + m - 1 + k) / 12) ((12 * y + m - 1 + k) % 12 + 1) (cut d (Cv.len ((12 * y + m - 1 + k) / 12) ((12 * y + m - 1 + k) % 12 + 1)))
theorem sh_out {y m d k : Int} (h : (12 * y + m - 1 + k) / 12 < -4718 ∨ 294282 < (12 * y + m - 1 + k) / 12) : shV y m d k = 0 ∧ shE y m d k = 10 := by
  unfold shV shE
  exact day_no (right_no (by omega))
theorem shift_far (n y m d k : Int) (h : can n = true) (hd : Cv.Is n y m d) (k1 : k ≤ -3588012 ∨ 3588012 ≤ k) (w : World) (hw : Lens w) :
    Calls Tryz.prog 127 #[vi ki n, vi ki k] w fun e w' => e = zr (.tuple #[vi ki 0, vi ki 10]) ∧ w' = w := by
  have H1 : Hid (∀ w : World, Lens w → Calls Tryz.prog 60 #[vi ki n] w fun e w' => e = zr (.tuple #[vi ki y, vi ki m, vi ki d, vi ki 0]) ∧ w' = w) := fun w hw => date_yes n y m d h hd w hw
  clear hd h
  rcases k1 with k1 | k1
  · go_enter Tryz.func127, Tryz.ntmps127
    go_wp2_with fail
    refine (H1.out _ hw).mono ?_
    rintro e w1 ⟨rfl, rfl⟩
    go_wp2
    go_ret2
    exact ⟨rfl, rfl⟩
  · have k2 : ¬ k ≤ -3588012 := by omega
    go_enter Tryz.func127, Tryz.ntmps127
    go_wp2_with fail
    refine (H1.out _ hw).mono ?_
    rintro e w1 ⟨rfl, rfl⟩
    go_wp2
    go_ret2
    exact ⟨rfl, rfl⟩
theorem shift_low (n y m d k : Int) (h : can n = true) (hd : Cv.Is n y m d) (k1 : ¬ k ≤ -3588012) (k2 : ¬ 3588012 ≤ k) (k3 : (y + 4718) * 12 + m - 1 + k < 0) (w : World) (hw : Lens w) :
    Calls Tryz.prog 127 #[vi ki n, vi ki k] w fun e w' => e = zr (.tuple #[vi ki 0, vi ki 10]) ∧ w' = w := by
  obtain ⟨n1, n2⟩ := of_can h
  obtain ⟨b1, b2⟩ := Cv.is_year hd
  obtain ⟨y1, y2⟩ := can_year n1 n2 b1 b2
  have m1 := hd.1
  have m2 := hd.2.1
  have H1 : Hid (∀ w : World, Lens w → Calls Tryz.prog 60 #[vi ki n] w fun e w' => e = zr (.tuple #[vi ki y, vi ki m, vi ki d, vi ki 0]) ∧ w' = w) := fun w hw => date_yes n y m d h hd w hw
  clear b1 b2 hd h
  go_enter Tryz.func127, Tryz.ntmps127
  go_wp2_with fail
  refine (H1.out _ hw).mono ?_
  rintro e w1 ⟨rfl, rfl⟩
  go_wp2_with fail
  go_ret2
  exact ⟨rfl, rfl⟩
theorem shift_in (n y m d k Y M : Int) (h : can n = true) (hd : Cv.Is n y m d) (k1 : ¬ k ≤ -3588012) (k2 : ¬ 3588012 ≤ k) (k3 : ¬ (y + 4718) * 12 + m - 1 + k < 0)
    (eY : -4718 + ((y + 4718) * 12 + m - 1 + k) / 12 = Y) (eM : ((y + 4718) * 12 + m - 1 + k) % 12 + 1 = M) (w : World) (hw : Lens w) :
    Calls Tryz.prog 127 #[vi ki n, vi ki k] w fun e w' => e = zr (.tuple #[vi ki (dayV Y M (cut d (Cv.len Y M))), vi ki (dayE Y M (cut d (Cv.len Y M)))]) ∧ w' = w := by
  obtain ⟨n1, n2⟩ := of_can h
  obtain ⟨b1, b2⟩ := Cv.is_year hd
  obtain ⟨y1, y2⟩ := can_year n1 n2 b1 b2
  have m1 := hd.1
  have m2 := hd.2.1
  have H1 : Hid (∀ w : World, Lens w → Calls Tryz.prog 60 #[vi ki n] w fun e w' => e = zr (.tuple #[vi ki y, vi ki m, vi ki d, vi ki 0]) ∧ w' = w) := fun w hw => date_yes n y m d h hd w hw
  clear b1 b2 hd h
  by_cases hc : d ≤ Cv.len Y M
  · rw [cut_le hc]
    have hmn : min d (Cv.len Y M) = d := Int.min_eq_left hc
    go_enter Tryz.func127, Tryz.ntmps127
    go_wp2_with fail
    refine (H1.out _ hw).mono ?_
    rintro e w1 ⟨rfl, rfl⟩
    go_wp2_with fail
    refine (len_any _ _ _ hw).mono ?_
    rintro e w1 ⟨rfl, rfl⟩
    go_wp2_with fail
    refine (days_any _ _ _ _ hw).mono ?_
    rintro e w1 ⟨rfl, rfl⟩
    go_wp2
    go_ret2
    exact ⟨rfl, rfl⟩
  · rw [cut_gt hc]
    have hmn : min d (Cv.len Y M) = Cv.len Y M := Int.min_eq_right (by omega)
    go_enter Tryz.func127, Tryz.ntmps127
    go_wp2_with fail
    refine (H1.out _ hw).mono ?_
    rintro e w1 ⟨rfl, rfl⟩
    go_wp2_with fail
    refine (len_any _ _ _ hw).mono ?_
    rintro e w1 ⟨rfl, rfl⟩
    go_wp2_with fail
    refine (days_any _ _ _ _ hw).mono ?_
    rintro e w1 ⟨rfl, rfl⟩
    go_wp2
    go_ret2
    exact ⟨rfl, rfl⟩
theorem shift_any (n y m d k : Int) (h : can n = true) (hd : Cv.Is n y m d) (w : World) (hw : Lens w) :
    Calls Tryz.prog 127 #[vi ki n, vi ki k] w fun e w' => e = zr (.tuple #[vi ki (shV y m d k), vi ki (shE y m d k)]) ∧ w' = w := by
  obtain ⟨n1, n2⟩ := of_can h
  obtain ⟨b1, b2⟩ := Cv.is_year hd
  obtain ⟨y1, y2⟩ := can_year n1 n2 b1 b2
  have m1 := hd.1
  have m2 := hd.2.1
  by_cases k1 : k ≤ -3588012 ∨ 3588012 ≤ k
  · have o := sh_out (y := y) (m := m) (d := d) (k := k) (by omega)
    rw [o.1, o.2]; exact shift_far n y m d k h hd k1 w hw
  · by_cases k3 : (y + 4718) * 12 + m - 1 + k < 0
    · have o := sh_out (y := y) (m := m) (d := d) (k := k) (by omega)
      rw [o.1, o.2]; exact shift_low n y m d k h hd (by omega) (by omega) k3 w hw
    · exact shift_in n y m d k _ _ h hd (by omega) (by omega) k3 (by omega) (by omega) w hw
end Go.Proofs.YtpdmndlpgjjopaaGreatDoor.Cvl
namespace Go.Proofs.YtpdmndlpgjjopaaGreatDoor
open Go.RowKit
def Bx (W : World) (b : Nat) (l : List Value) : Prop := b < W.heap.size ∧ ∀ i v, l[i]? = some v → W.cell? ⟨b, i, none⟩ = some v ∧ W.frozen? ⟨b, i, none⟩ = false
theorem Bx.below {W W' : World} {b : Nat} {l : List Value} (h : Bx W b l) (hb : Below W.heap.size W W') : Bx W' b l :=
 ⟨Nat.lt_of_lt_of_le h.1 hb.size, fun i v e => ⟨(hb.cell (p := ⟨b, i, none⟩) h.1).trans (h.2 i v e).1, (hb.frozen (p := ⟨b, i, none⟩) h.1).trans (h.2 i v e).2⟩⟩
theorem Bx.alloc {W : World} {b : Nat} {l : List Value} (h : Bx W b l) (o : Obj) : Bx (W.alloc o) b l := h.below ((Below.refl _ W).alloc (Nat.le_refl _) o)
theorem Bx.new (w : World) (l : List Value) (t : TypeId) : Bx (w.alloc (.cells l.toArray t)) w.heap.size l :=
 ⟨by simp, fun i v e => ⟨by rw [World.cell?_alloc_at _ _ _ _ rfl]; simpa using e, by rw [World.frozen?_alloc_at _ _ _ _ rfl]⟩⟩
theorem Bx.c {W : World} {b : Nat} {l : List Value} (h : Bx W b l) (i : Nat) {v : Value} (e : l[i]? = some v) : W.cell? ⟨b, i, none⟩ = some v := (h.2 i v e).1
theorem Bx.f {W : World} {b : Nat} {l : List Value} (h : Bx W b l) (i : Nat) {v : Value} (e : l[i]? = some v) : W.frozen? ⟨b, i, none⟩ = false := (h.2 i v e).2
theorem below_setCells {w : World} {b : Nat} (hb : w.heap.size ≤ b) : ∀ (vs : List Value) (W : World) (i : Nat), Below w.heap.size w W → Below w.heap.size w (W.setCells b i vs)
 | [], _, _, h => h
 | v :: vs, W, i, h => below_setCells hb vs _ _ (h.setCell (p := ⟨b, i, none⟩) hb v)
theorem setCells_size (b : Nat) : ∀ (vs : List Value) (W : World) (i : Nat), (W.setCells b i vs).heap.size = W.heap.size
 | [], _, _ => rfl
 | v :: vs, W, i => by rw [World.setCells, setCells_size b vs]; simp
theorem setCells_off (b : Nat) (vs : List Value) (W : World) (i : Nat) (p : Addr) (h : p.block ≠ b) : (W.setCells b i vs).cell? p = W.cell? p :=
 World.cell?_setCells_out b vs i W p (fun e _ => absurd e h)
theorem Bx.there {W : World} {b : Nat} {l : List Value} (h : Bx W b l) : W.there b 0 l.length := fun j hj => by
 have := h.2 j l[j] (List.getElem?_eq_getElem hj)
 rw [Nat.zero_add]
 exact ⟨by rw [this.1]; rfl, this.2⟩
theorem Bx.all {W : World} {b : Nat} {l : List Value} (h : Bx W b l) : W.rangeAt b 0 l := fun j v hv => by rw [Nat.zero_add]; exact (h.2 j v hv).1
theorem Bx.setAll {W : World} {b : Nat} {l : List Value} (h : Bx W b l) (vs : List Value) (hl : l.length = vs.length) : Bx (W.setCells b 0 vs) b vs :=
 ⟨by rw [setCells_size]; exact h.1, fun i v e => by
  have hi := (List.getElem?_eq_some_iff.1 e).1
  refine ⟨?_, ?_⟩
  ·have := World.rangeAt_setCells_same W b 0 vs (hl ▸ h.there) i v e
   rwa [Nat.zero_add] at this
  ·rw [World.frozen?_setCells]; exact (h.2 i l[i] (List.getElem?_eq_getElem (by omega))).2⟩
theorem Bx.setOther {W : World} {b' b : Nat} {l : List Value} (h : Bx W b' l) (hb : b' ≠ b) (vs : List Value) (j : Nat := 0) : Bx (W.setCells b j vs) b' l :=
 ⟨by rw [setCells_size]; exact h.1, fun i v e => ⟨by rw [setCells_off b vs _ _ _ hb]; exact (h.2 i v e).1, by rw [World.frozen?_setCells]; exact (h.2 i v e).2⟩⟩
def BS (w : World) (l : List (Nat × List Value)) (W : World) : Prop := Below w.heap.size w W ∧ ∀ x ∈ l, w.heap.size ≤ x.1 ∧ Bx W x.1 x.2
theorem BS.start (w : World) : BS w [] w := ⟨Below.refl _ _, fun x h => by cases h⟩
theorem BS.below {w W V : World} {l : List (Nat × List Value)} (h : BS w l W) (hb : Below W.heap.size W V) : BS w l V :=
 ⟨h.1.trans (hb.mono h.1.size), fun x hx => ⟨(h.2 x hx).1, (h.2 x hx).2.below hb⟩⟩
theorem BS.drew {w W : World} {l : List (Nat × List Value)} (h : BS w l W) : BS w l W.drew := ⟨h.1.drew, h.2⟩
theorem BS.alloc {w W : World} {l : List (Nat × List Value)} (h : BS w l W) (o : Obj) : BS w l (W.alloc o) := h.below ((Below.refl _ W).alloc (Nat.le_refl _) o)
theorem BS.new {w W : World} {l : List (Nat × List Value)} (h : BS w l W) (cs : List Value) (t : TypeId) {b : Nat} (hb : W.heap.size = b) : BS w ((b, cs) :: l) (W.alloc (.cells cs.toArray t)) :=
 ⟨(h.alloc _).1, fun x hx => by
  rcases List.mem_cons.1 hx with rfl | hx
  ·exact ⟨by rw [← hb]; exact h.1.size, by rw [← hb]; exact Bx.new W cs t⟩
  ·exact (h.alloc _).2 x hx⟩
theorem BS.first {w W : World} {l : List (Nat × List Value)} {b : Nat} {cs : List Value} (h : BS w ((b, cs) :: l) W) : Bx W b cs := (h.2 (b, cs) List.mem_cons_self).2
theorem BS.at {w W : World} {l : List (Nat × List Value)} (h : BS w l W) (b : Nat) (cs : List Value) (hm : (b, cs) ∈ l) : Bx W b cs := (h.2 (b, cs) hm).2
theorem BS.set {w W : World} {l : List (Nat × List Value)} {b : Nat} {cs : List Value} (h : BS w ((b, cs) :: l) W) (vs : List Value) (hl : cs.length = vs.length) (hn : ∀ x ∈ l, x.1 ≠ b) : BS w ((b, vs) :: l) (W.setCells b 0 vs) :=
 ⟨below_setCells (h.2 (b, cs) List.mem_cons_self).1 vs W 0 h.1, fun x hx => by
  rcases List.mem_cons.1 hx with rfl | hx
  ·exact ⟨(h.2 (b, cs) List.mem_cons_self).1, h.first.setAll vs hl⟩
  ·exact ⟨(h.2 x (List.mem_cons_of_mem _ hx)).1, (h.2 x (List.mem_cons_of_mem _ hx)).2.setOther (hn x hx) vs⟩⟩
theorem BS.push {w W : World} {l : List (Nat × List Value)} (h : BS w l W) (zs vs : List Value) (t : TypeId) (hl : zs.length = vs.length) : BS w ((W.heap.size, vs) :: l) ((W.alloc (.cells zs.toArray t)).setCells W.heap.size 0 vs) :=
 (h.new zs t rfl).set vs hl fun x hx => Nat.ne_of_lt (h.2 x hx).2.1
theorem gen_to {P : Program} {c : Code} {Q : Exit → Act → World → Prop} {a : Act} {w1 : World} (T : World → Prop) (h : T w1) (k : ∀ w2, T w2 → Code.wp P c Q a w2) : Code.wp P c Q a w1 := k _ h
theorem BS.tail {w W : World} {l : List (Nat × List Value)} {x : Nat × List Value} (h : BS w (x :: l) W) : BS w l W := ⟨h.1, fun y hy => h.2 y (List.mem_cons_of_mem _ hy)⟩
theorem Bx.set1 {W : World} {b : Nat} {l : List Value} (h : Bx W b l) (i : Nat) (v : Value) (hi : i < l.length) : Bx (W.setCell ⟨b, i, none⟩ v) b (l.set i v) :=
 ⟨by simpa using h.1, fun j x e => by
  by_cases hj : i = j
  ·subst hj
   rw [List.getElem?_set_self hi] at e
   cases e
   exact ⟨World.cell?_setCell_same _ _ _ (h.2 i l[i] (List.getElem?_eq_getElem hi)).1, by rw [World.frozen?_setCell]; exact (h.2 i l[i] (List.getElem?_eq_getElem hi)).2⟩
  ·rw [List.getElem?_set_ne hj] at e
   exact ⟨(World.cell?_setCell_other _ _ _ _ (fun q => hj (by cases q; rfl))).trans (h.2 j x e).1, by rw [World.frozen?_setCell]; exact (h.2 j x e).2⟩⟩
theorem BS.set1 {w W : World} {l : List (Nat × List Value)} {b : Nat} {cs : List Value} (h : BS w ((b, cs) :: l) W) (i : Nat) (v : Value) (hi : i < cs.length) (hn : ∀ x ∈ l, x.1 ≠ b) : BS w ((b, cs.set i v) :: l) (W.setCell ⟨b, i, none⟩ v) :=
 ⟨h.1.setCell (p := ⟨b, i, none⟩) (h.2 (b, cs) List.mem_cons_self).1 v, fun x hx => by
  rcases List.mem_cons.1 hx with rfl | hx
  ·exact ⟨(h.2 (b, cs) List.mem_cons_self).1, h.first.set1 i v hi⟩
  ·exact ⟨(h.2 x (List.mem_cons_of_mem _ hx)).1, (h.2 x (List.mem_cons_of_mem _ hx)).2.setOther (hn x hx) [v] i⟩⟩
theorem BS.swap {w W : World} {l : List (Nat × List Value)} {x y : Nat × List Value} (h : BS w (x :: y :: l) W) : BS w (y :: x :: l) W :=
 ⟨h.1, fun z hz => h.2 z (by simp only [List.mem_cons] at hz ⊢; rcases hz with h | h | h; exact .inr (.inl h); exact .inl h; exact .inr (.inr h))⟩
def BW (w W : World) : Prop := Below w.heap.size w W
theorem BW.below {w W V : World} (h : BW w W) (hb : Below W.heap.size W V) : BW w V := Below.trans h (hb.mono h.size)
theorem BW.drew {w W : World} (h : BW w W) : BW w W.drew := Below.drew h
theorem BS.perm {w W : World} {l l' : List (Nat × List Value)} (h : BS w l W) (hs : ∀ x ∈ l', x ∈ l) : BS w l' W := ⟨h.1, fun x hx => h.2 x (hs x hx)⟩
def NB (w : World) (l : List (Nat × List Value)) (W : World) (b : Nat) (cs : List Value) : Prop := Bx W b cs ∧ w.heap.size ≤ b ∧ ∀ x ∈ l, x.1 ≠ b
theorem BS.nb {w V : World} {l : List (Nat × List Value)} {cs : List Value} {t : TypeId} (h0 : BS w l V) (h : BS w l (V.alloc (.cells cs.toArray t))) : NB w l (V.alloc (.cells cs.toArray t)) V.heap.size cs :=
 ⟨Bx.new V cs t, h0.1.size, fun x hx => Nat.ne_of_lt (h0.2 x hx).2.1⟩
theorem NB.below {w V V' : World} {l : List (Nat × List Value)} {b : Nat} {cs : List Value} (h : NB w l V b cs) (hb : Below V.heap.size V V') : NB w l V' b cs := ⟨h.1.below hb, h.2⟩
theorem BS.off {w W : World} {l : List (Nat × List Value)} (h : BS w l W) {b : Nat} (hb : w.heap.size ≤ b) (hn : ∀ x ∈ l, x.1 ≠ b) (vs : List Value) : BS w l (W.setCells b 0 vs) :=
 ⟨below_setCells hb vs W 0 h.1, fun x hx => ⟨(h.2 x hx).1, (h.2 x hx).2.setOther (hn x hx) vs⟩⟩
theorem exec_row9 {P : Program} {ρ : Operand → Value} {o : Oper} {w : World} {b off : Nat} {ty : TypeId} {x : Operand} {cs : List Value} {d : TypeDesc} (ho : o.op = .load ty x) (hx : ρ x = .pointer (some ⟨b, off, none⟩)) (hc : w.rangeAt b off cs)
  (hu : P.underlying ty = some d) (hd : d.isRow = true) (hi : (P.info? ty).map (·.size) = some cs.length) : (execOp ρ o).run P w = .ok (.value (.agg cs.toArray)) w := by
 simp only [execOp, ho, hx, Sem.run_bind, run_loadAt_mid w b off ty cs d hc hu hd hi, Sem.run_pure, Result.andThen_ok]
theorem Lens_below {w w' : World} {b : Nat} (h : Cvl.Lens w) (hb : Below b w w') (h0 : 0 < b) : Cvl.Lens w' := fun i hi => (hb.cell (p := ⟨0, i, none⟩) h0).trans (h i hi)
theorem Lens_lt {w : World} (h : Cvl.Lens w) : 0 < w.heap.size := by
 have := h 0 (by decide)
 by_cases hlt : 0 < w.heap.size
 ·exact hlt
 ·have e : w.heap[0]? = none := Array.getElem?_eq_none (by omega)
  simp [World.cell?, e] at this
theorem bsb {w W V : World} {l : List (Nat × List Value)} (K : Hid (BS w l W)) (hb : Below W.heap.size W V) : Hid (BS w l V) := K.out.below hb
theorem bsn {w W : World} {l : List (Nat × List Value)} (K : Hid (BS w l W)) (cs : List Value) (t : TypeId) : Hid (BS w ((W.heap.size, cs) :: l) (W.alloc (.cells cs.toArray t))) := K.out.new cs t rfl
theorem bs_to {P : Program} {c : Code} {Q : Exit → Act → World → Prop} {a : Act} {w w1 : World} {l : List (Nat × List Value)} (h : Hid (BS w l w1)) (k : ∀ w2, Hid (BS w l w2) → Code.wp P c Q a w2) : Code.wp P c Q a w1 := k _ h
theorem bo1 {w W : World} {l : List (Nat × List Value)} {b : Nat} {cs : List Value} (K : Hid (BS w ((b, cs) :: l) W)) : Bx W b cs := K.out.first
theorem bo2 {w W : World} {l : List (Nat × List Value)} {x1 : Nat × List Value} {b : Nat} {cs : List Value} (K : Hid (BS w (x1 :: (b, cs) :: l) W)) : Bx W b cs := K.out.tail.first
theorem bo3 {w W : World} {l : List (Nat × List Value)} {x1 x2 : Nat × List Value} {b : Nat} {cs : List Value} (K : Hid (BS w (x1 :: x2 :: (b, cs) :: l) W)) : Bx W b cs := K.out.tail.tail.first
theorem bo4 {w W : World} {l : List (Nat × List Value)} {x1 x2 x3 : Nat × List Value} {b : Nat} {cs : List Value} (K : Hid (BS w (x1 :: x2 :: x3 :: (b, cs) :: l) W)) : Bx W b cs := K.out.tail.tail.tail.first
theorem Bx.c1 {W : World} {b : Nat} {v0 : Value} (h : Bx W b [v0]) : W.cell? ⟨b, 0, none⟩ = some v0 := h.c 0 rfl
theorem Bx.f1 {W : World} {b : Nat} {v0 : Value} (h : Bx W b [v0]) : W.frozen? ⟨b, 0, none⟩ = false := h.f 0 rfl
theorem Bx.c2 {W : World} {b : Nat} {v0 v1 : Value} (h : Bx W b [v0, v1]) : W.cell? ⟨b, 0, none⟩ = some v0 ∧ W.cell? ⟨b, 1, none⟩ = some v1 := ⟨h.c 0 rfl, h.c 1 rfl⟩
theorem Bx.f2 {W : World} {b : Nat} {v0 v1 : Value} (h : Bx W b [v0, v1]) : W.frozen? ⟨b, 0, none⟩ = false ∧ W.frozen? ⟨b, 1, none⟩ = false := ⟨h.f 0 rfl, h.f 1 rfl⟩
theorem Bx.c3 {W : World} {b : Nat} {v0 v1 v2 : Value} (h : Bx W b [v0, v1, v2]) : W.cell? ⟨b, 0, none⟩ = some v0 ∧ W.cell? ⟨b, 1, none⟩ = some v1 ∧ W.cell? ⟨b, 2, none⟩ = some v2 := ⟨h.c 0 rfl, h.c 1 rfl, h.c 2 rfl⟩
theorem Bx.f3 {W : World} {b : Nat} {v0 v1 v2 : Value} (h : Bx W b [v0, v1, v2]) : W.frozen? ⟨b, 0, none⟩ = false ∧ W.frozen? ⟨b, 1, none⟩ = false ∧ W.frozen? ⟨b, 2, none⟩ = false := ⟨h.f 0 rfl, h.f 1 rfl, h.f 2 rfl⟩
theorem Bx.c4 {W : World} {b : Nat} {v0 v1 v2 v3 : Value} (h : Bx W b [v0, v1, v2, v3]) : W.cell? ⟨b, 0, none⟩ = some v0 ∧ W.cell? ⟨b, 1, none⟩ = some v1 ∧ W.cell? ⟨b, 2, none⟩ = some v2 ∧ W.cell? ⟨b, 3, none⟩ = some v3 := ⟨h.c 0 rfl, h.c 1 rfl, h.c 2 rfl, h.c 3 rfl⟩
theorem Bx.f4 {W : World} {b : Nat} {v0 v1 v2 v3 : Value} (h : Bx W b [v0, v1, v2, v3]) : W.frozen? ⟨b, 0, none⟩ = false ∧ W.frozen? ⟨b, 1, none⟩ = false ∧ W.frozen? ⟨b, 2, none⟩ = false ∧ W.frozen? ⟨b, 3, none⟩ = false := ⟨h.f 0 rfl, h.f 1 rfl, h.f 2 rfl, h.f 3 rfl⟩
theorem Bx.c5 {W : World} {b : Nat} {v0 v1 v2 v3 v4 : Value} (h : Bx W b [v0, v1, v2, v3, v4]) : W.cell? ⟨b, 0, none⟩ = some v0 ∧ W.cell? ⟨b, 1, none⟩ = some v1 ∧ W.cell? ⟨b, 2, none⟩ = some v2 ∧ W.cell? ⟨b, 3, none⟩ = some v3 ∧ W.cell? ⟨b, 4, none⟩ = some v4 := ⟨h.c 0 rfl, h.c 1 rfl, h.c 2 rfl, h.c 3 rfl, h.c 4 rfl⟩
theorem Bx.f5 {W : World} {b : Nat} {v0 v1 v2 v3 v4 : Value} (h : Bx W b [v0, v1, v2, v3, v4]) : W.frozen? ⟨b, 0, none⟩ = false ∧ W.frozen? ⟨b, 1, none⟩ = false ∧ W.frozen? ⟨b, 2, none⟩ = false ∧ W.frozen? ⟨b, 3, none⟩ = false ∧ W.frozen? ⟨b, 4, none⟩ = false := ⟨h.f 0 rfl, h.f 1 rfl, h.f 2 rfl, h.f 3 rfl, h.f 4 rfl⟩
theorem bsn1 (w : World) (A0 : List Value) (a0 : TypeId) : Hid (BS w [(w.heap.size, A0)] (w.alloc (.cells A0.toArray a0))) := ((BS.start w).new A0 a0 rfl)
theorem bsn2 (w : World) (A0 : List Value) (a0 : TypeId) (A1 : List Value) (a1 : TypeId) : Hid (BS w [(w.heap.size + 1, A1), (w.heap.size, A0)] ((w.alloc (.cells A0.toArray a0)).alloc (.cells A1.toArray a1))) := (((BS.start w).new A0 a0 rfl).new A1 a1 (by simp))
theorem bsn3 (w : World) (A0 : List Value) (a0 : TypeId) (A1 : List Value) (a1 : TypeId) (A2 : List Value) (a2 : TypeId) : Hid (BS w [(w.heap.size + 2, A2), (w.heap.size + 1, A1), (w.heap.size, A0)] (((w.alloc (.cells A0.toArray a0)).alloc (.cells A1.toArray a1)).alloc (.cells A2.toArray a2))) := ((((BS.start w).new A0 a0 rfl).new A1 a1 (by simp)).new A2 a2 (by simp))
theorem bsn4 (w : World) (A0 : List Value) (a0 : TypeId) (A1 : List Value) (a1 : TypeId) (A2 : List Value) (a2 : TypeId) (A3 : List Value) (a3 : TypeId) : Hid (BS w [(w.heap.size + 3, A3), (w.heap.size + 2, A2), (w.heap.size + 1, A1), (w.heap.size, A0)] ((((w.alloc (.cells A0.toArray a0)).alloc (.cells A1.toArray a1)).alloc (.cells A2.toArray a2)).alloc (.cells A3.toArray a3))) := (((((BS.start w).new A0 a0 rfl).new A1 a1 (by simp)).new A2 a2 (by simp)).new A3 a3 (by simp))
theorem bsn5 (w : World) (A0 : List Value) (a0 : TypeId) (A1 : List Value) (a1 : TypeId) (A2 : List Value) (a2 : TypeId) (A3 : List Value) (a3 : TypeId) (A4 : List Value) (a4 : TypeId) : Hid (BS w [(w.heap.size + 4, A4), (w.heap.size + 3, A3), (w.heap.size + 2, A2), (w.heap.size + 1, A1), (w.heap.size, A0)] (((((w.alloc (.cells A0.toArray a0)).alloc (.cells A1.toArray a1)).alloc (.cells A2.toArray a2)).alloc (.cells A3.toArray a3)).alloc (.cells A4.toArray a4))) := ((((((BS.start w).new A0 a0 rfl).new A1 a1 (by simp)).new A2 a2 (by simp)).new A3 a3 (by simp)).new A4 a4 (by simp))
def mostB (m : Int) : Bool := decide (0 ≤ m) && decide (m ≤ 1000)
theorem most_any (m : Int) (w : World) : Calls Tryz.prog 15 #[vi ki m] w fun r w' => r = zr (.bool (mostB m)) ∧ w' = w := by
 unfold mostB
 by_cases h0 : 0 ≤ m
 ·by_cases h1 : m ≤ 1000
  ·rw [decide_eq_true h0, decide_eq_true h1]
   go_enter Tryz.func15, Tryz.ntmps15
   go_wp2_with fail
   go_ret
   exact ⟨rfl, rfl⟩
  ·rw [decide_eq_true h0, decide_eq_false h1]
   go_enter Tryz.func15, Tryz.ntmps15
   go_wp2_with fail
   go_ret
   exact ⟨rfl, rfl⟩
 ·rw [decide_eq_false h0]
  go_enter Tryz.func15, Tryz.ntmps15
  go_wp2_with fail
  go_ret
  exact ⟨rfl, rfl⟩
def allU (a b s : Int) : Bool := decide (a = -9223372036854775808) && (decide (b = 9223372036854775807) && decide (s = 1))
def allD (a b s : Int) : Bool := decide (a = 9223372036854775807) && (decide (b = -9223372036854775808) && decide (s = -1))
def allB (a b s : Int) : Bool := allU a b s || allD a b s
theorem ite_okS {c : Prop} [Decidable c] (r : Bool) (w : World) : (if c then Result.ok r w else Result.ok false w) = Result.ok (decide c && r) w := by split <;> simp [*]
theorem numbers_eq (a b s x y z : Int) (w : World) : (Op.equalIn 10000 124 (.agg #[vi ki a, vi ki b, vi ki s]) (.agg #[vi ki x, vi ki y, vi ki z])).run Tryz.prog w = .ok (decide (a = x) && (decide (b = y) && decide (s = z))) w := by
 rw [run_equalIn_struct w 9999 124 _ _ (by kernel_rfl) (by kernel_rfl)]
 go_simp
 simp only [ite_okS]
 congr 1
 rw [Bool.eq_iff_iff]
 simp only [Bool.and_eq_true, decide_eq_true_eq, and_true]
theorem all_any (a b s : Int) (w : World) : Calls Tryz.prog 63 #[.agg #[vi ki a, vi ki b, vi ki s]] w fun r w' => r = zr (.bool (allB a b s)) ∧ Below w.heap.size w w' := by
 have E1 : ∀ w : World, (Op.equalIn 10000 124 (.agg #[vi ki a, vi ki b, vi ki s]) (.agg #[vi ki (-9223372036854775808), vi ki 9223372036854775807, vi ki 1])).run Tryz.prog w = .ok (allU a b s) w := fun w => numbers_eq a b s _ _ _ w
 have E2 : ∀ w : World, (Op.equalIn 10000 124 (.agg #[vi ki a, vi ki b, vi ki s]) (.agg #[vi ki 9223372036854775807, vi ki (-9223372036854775808), vi ki (-1)])).run Tryz.prog w = .ok (allD a b s) w := fun w => numbers_eq a b s _ _ _ w
 unfold allB
 generalize allU a b s = p at *
 generalize allD a b s = q at *
 cases p
 ·rw [Bool.false_or]
  go_enter Tryz.func63, Tryz.ntmps63
  go_wp2_with fail
  go_ret
  exact ⟨rfl, (by repeat' (first | assumption | exact Below.refl _ _ | exact Nat.le_refl _ | refine Below.alloc ?_ ?_ _ | (simp; done) | (simp; omega) | omega))⟩
 ·rw [Bool.true_or]
  go_enter Tryz.func63, Tryz.ntmps63
  go_wp2_with fail
  go_ret
  exact ⟨rfl, (by repeat' (first | assumption | exact Below.refl _ _ | exact Nat.le_refl _ | refine Below.alloc ?_ ?_ _ | (simp; done) | (simp; omega) | omega))⟩
def cntI (a b s : Int) : Int := if 0 < s then (if b < a then 0 else (b - a) / s + 1) else (if a < b then 0 else (a - b) / (-s) + 1)
namespace Wd
def dg (v i : Nat) : Nat := v / 4294967296 ^ i % 4294967296
theorem dg_lt (v i : Nat) : dg v i < 4294967296 := Nat.mod_lt _ (by decide)
theorem pw_pos (i : Nat) : 0 < 4294967296 ^ i := Nat.pow_pos (by decide)
def cy (a b i : Nat) : Nat := (a % 4294967296 ^ i + b % 4294967296 ^ i) / 4294967296 ^ i
def bw (a b i : Nat) : Nat := if a % 4294967296 ^ i < b % 4294967296 ^ i then 1 else 0
theorem cy_zero (a b : Nat) : cy a b 0 = 0 := by unfold cy; simp [Nat.mod_one]
theorem bw_zero (a b : Nat) : bw a b 0 = 0 := by unfold bw; simp [Nat.mod_one]
theorem bw_01 (a b i : Nat) : bw a b i ≤ 1 := by unfold bw; split <;> omega
theorem mod_next (v p : Nat) : v % (p * 4294967296) = v % p + p * (v / p % 4294967296) := Nat.mod_mul
theorem sum_div (a b p : Nat) (hp : 0 < p) : (a + b) / p = a / p + b / p + (a % p + b % p) / p := by
 have e : a + b = (a % p + b % p) + p * (a / p + b / p) := by
  have h1 := Nat.div_add_mod a p
  have h2 := Nat.div_add_mod b p
  rw [Nat.mul_add]; omega
 rw [e, Nat.add_mul_div_left _ _ hp]
 omega
theorem cy_01 (a b i : Nat) : cy a b i ≤ 1 := by
 unfold cy
 have hp := pw_pos i
 generalize 4294967296 ^ i = p at *
 have h1 := Nat.mod_lt a hp
 have h2 := Nat.mod_lt b hp
 have : (a % p + b % p) / p < 2 := Nat.div_lt_of_lt_mul (by omega)
 omega
theorem add_dg (a b i : Nat) : (cy a b i + dg a i + dg b i) % 4294967296 = dg (a + b) i ∧ (cy a b i + dg a i + dg b i) / 4294967296 = cy a b (i + 1) := by
 unfold dg cy
 rw [Nat.pow_succ]
 have hp := pw_pos i
 generalize 4294967296 ^ i = p at *
 rw [sum_div a b p hp, mod_next a p, mod_next b p]
 have e : a % p + p * (a / p % 4294967296) + (b % p + p * (b / p % 4294967296)) = (a % p + b % p) + p * (a / p % 4294967296 + b / p % 4294967296) := by rw [Nat.mul_add]; omega
 rw [e, ← Nat.div_div_eq_div_mul, Nat.add_mul_div_left _ _ hp]
 generalize (a % p + b % p) / p = c
 generalize a / p = A
 generalize b / p = B
 constructor
 ·omega
 ·have : c + A % 4294967296 + B % 4294967296 = c + (A % 4294967296 + B % 4294967296) := by omega
  rw [this]
theorem sub_div (a b p : Nat) (hp : 0 < p) (h : b ≤ a) : (a - b) / p + b / p + (if a % p < b % p then 1 else 0) = a / p := by
 have h1 := Nat.div_add_mod a p
 have h2 := Nat.div_add_mod b p
 have l1 := Nat.mod_lt a hp
 have l2 := Nat.mod_lt b hp
 generalize a / p = A at *
 generalize b / p = B at *
 generalize a % p = x at *
 generalize b % p = y at *
 subst h1 h2
 by_cases c : x < y
 ·rw [if_pos c]
  have hAB : B + 1 ≤ A := by
   by_cases g : A ≤ B
   ·have := Nat.mul_le_mul_left p g; omega
   ·omega
  obtain ⟨D, rfl⟩ : ∃ D, A = B + 1 + D := ⟨A - B - 1, by omega⟩
  have e : p * (B + 1 + D) + x - (p * B + y) = (p + x - y) + p * D := by rw [Nat.mul_add, Nat.mul_add]; omega
  rw [e, Nat.add_mul_div_left _ _ hp, Nat.div_eq_of_lt (by omega)]
  omega
 ·rw [if_neg c]
  have hAB : B ≤ A := by
   by_cases g : B ≤ A
   ·exact g
   ·have := Nat.mul_le_mul_left p (show A + 1 ≤ B by omega)
    rw [Nat.mul_add] at this
    omega
  obtain ⟨D, rfl⟩ : ∃ D, A = B + D := ⟨A - B, by omega⟩
  have e : p * (B + D) + x - (p * B + y) = (x - y) + p * D := by rw [Nat.mul_add]; omega
  rw [e, Nat.add_mul_div_left _ _ hp, Nat.div_eq_of_lt (by omega)]
  omega
theorem lt_parts (p x y u v : Nat) (hu : u < p) (hv : v < p) : u + p * x < v + p * y ↔ x < y ∨ (x = y ∧ u < v) := by
 constructor
 ·intro h
  by_cases c : x < y
  ·exact .inl c
  ·by_cases e : x = y
   ·subst e; exact .inr ⟨rfl, by omega⟩
   ·have := Nat.mul_le_mul_left p (show y + 1 ≤ x by omega)
    rw [Nat.mul_add] at this
    omega
 ·rintro (h | ⟨rfl, h⟩)
  ·have := Nat.mul_le_mul_left p (show x + 1 ≤ y by omega)
   rw [Nat.mul_add] at this
   omega
  ·omega
theorem sub_dg (a b i : Nat) (h : b ≤ a) : (dg a i + 4294967296 - dg b i - bw a b i) % 4294967296 = dg (a - b) i ∧ 1 - (dg a i + 4294967296 - dg b i - bw a b i) / 4294967296 = bw a b (i + 1) := by
 have lb := bw_01 a b i
 have s := sub_div a b (4294967296 ^ i) (pw_pos i) h
 have hp := pw_pos i
 have e1 : bw a b (i + 1) = if a / 4294967296 ^ i % 4294967296 < b / 4294967296 ^ i % 4294967296 ∨ (a / 4294967296 ^ i % 4294967296 = b / 4294967296 ^ i % 4294967296 ∧ a % 4294967296 ^ i < b % 4294967296 ^ i) then 1 else 0 := by
  unfold bw
  rw [Nat.pow_succ, mod_next a, mod_next b]
  have := lt_parts (4294967296 ^ i) (a / 4294967296 ^ i % 4294967296) (b / 4294967296 ^ i % 4294967296) (a % 4294967296 ^ i) (b % 4294967296 ^ i) (Nat.mod_lt _ hp) (Nat.mod_lt _ hp)
  simp only [this]
 rw [e1]
 unfold dg bw at *
 generalize a / 4294967296 ^ i = A at *
 generalize b / 4294967296 ^ i = B at *
 generalize (a - b) / 4294967296 ^ i = D at *
 generalize a % 4294967296 ^ i = x at *
 generalize b % 4294967296 ^ i = y at *
 by_cases c : x < y
 ·rw [if_pos c] at s lb ⊢
  constructor
  ·omega
  ·split <;> omega
 ·rw [if_neg c] at s lb ⊢
  constructor
  ·omega
  ·split <;> omega
theorem top (a i : Nat) : a / 4294967296 ^ i = a / 4294967296 ^ (i + 1) * 4294967296 + dg a i := by
 unfold dg
 rw [Nat.pow_succ, ← Nat.div_div_eq_div_mul]
 omega
theorem top_eq {a b i : Nat} (h : a / 4294967296 ^ (i + 1) = b / 4294967296 ^ (i + 1)) (g : dg a i = dg b i) : a / 4294967296 ^ i = b / 4294967296 ^ i := by
 rw [top a, top b, h, g]
theorem top_lt {a b i : Nat} (h : a / 4294967296 ^ (i + 1) = b / 4294967296 ^ (i + 1)) (g : dg a i < dg b i) : a < b := by
 by_cases c : a < b
 ·exact c
 ·have := Nat.div_le_div_right (c := 4294967296 ^ i) (show b ≤ a by omega)
  rw [top a, top b, h] at this
  omega
theorem top_six {a : Nat} (h : a < 4294967296 ^ 6) : a / 4294967296 ^ 6 = 0 := Nat.div_eq_of_lt h
theorem top_zero (a : Nat) : a / 4294967296 ^ 0 = a := by simp
theorem dg_zero (i : Nat) : dg 0 i = 0 := by unfold dg; simp
end Wd
open Go.RowKit
def Row (w : World) (b v : Nat) : Prop := v < 4294967296 ^ 6 ∧ b < w.heap.size ∧ ∀ i, i < 6 → w.cell? ⟨b, i, none⟩ = some (.int .u64 ((Wd.dg v i : Nat) : Int))
theorem Row.below {w w' : World} {B b v : Nat} (h : Row w b v) (hb : Below B w w') (hB : b < B) : Row w' b v :=
 ⟨h.1, Nat.lt_of_lt_of_le h.2.1 hb.size, fun i hi => (hb.cell (p := ⟨b, i, none⟩) hB).trans (h.2.2 i hi)⟩
theorem Row.drew {w : World} {b v : Nat} (h : Row w b v) : Row w.drew b v := h
structure Part (w wr : World) (N : Nat) (f : Nat → Nat) : Prop where
 below : Below N w wr
 size : N < wr.heap.size
 cell : ∀ j, j < 6 → wr.cell? ⟨N, j, none⟩ = some (.int .u64 ((f j : Nat) : Int))
 free : ∀ j, j < 6 → wr.frozen? ⟨N, j, none⟩ = false
theorem Part.congr {w wr : World} {N : Nat} {f g : Nat → Nat} (h : Part w wr N f) (e : ∀ j, j < 6 → f j = g j) : Part w wr N g :=
 ⟨h.below, h.size, fun j hj => by rw [← e j hj]; exact h.cell j hj, h.free⟩
theorem Part.drew {w wr : World} {N : Nat} {f : Nat → Nat} (h : Part w wr N f) : Part w wr.drew N f := ⟨h.below.drew, h.size, h.cell, h.free⟩
theorem Part.set {w wr : World} {N k x : Nat} {f : Nat → Nat} (h : Part w wr N f) (hk : k < 6) : Part w (wr.setCell ⟨N, k, none⟩ (.int .u64 (x : Int))) N (fun j => if j = k then x else f j) := by
 refine ⟨h.below.setCell (Nat.le_refl _) _, by simpa [World.setCell] using h.size, fun j hj => ?_, fun j hj => ?_⟩
 ·by_cases e : j = k
  ·subst e
   rw [if_pos rfl]
   exact World.cell?_setCell_same _ _ _ (h.cell j hj)
  ·rw [if_neg e]
   exact (World.cell?_setCell_other _ _ _ _ (fun x => by cases x; exact e rfl)).trans (h.cell j hj)
 ·rw [World.frozen?_setCell]; exact h.free j hj
theorem zeros (w : World) (E : TypeId) : Part w (w.alloc (.cells #[.int .u64 0, .int .u64 0, .int .u64 0, .int .u64 0, .int .u64 0, .int .u64 0] E)) w.heap.size (fun _ => 0) := by
 refine ⟨(Below.refl _ _).alloc (Nat.le_refl _) _, by simp, fun j hj => ?_, fun j hj => World.frozen?_alloc_at _ _ _ _ rfl⟩
 rw [World.cell?_alloc_at _ _ _ _ rfl]
 match j, hj with
 | 0, _ => rfl
 | 1, _ => rfl
 | 2, _ => rfl
 | 3, _ => rfl
 | 4, _ => rfl
 | 5, _ => rfl
theorem wret_bool {a b : Bool} (h : a = b) : Ending.returned (.bool a) = zr (.bool b) := by rw [h]
theorem make_six (w : World) : (Instr.makeSlice 100 (vi ki 6) (vi ki 6)).run Tryz.prog w = .ok (.slice (some ⟨w.heap.size, 0, none⟩) 6 6) (w.alloc (.cells #[.int .u64 0, .int .u64 0, .int .u64 0, .int .u64 0, .int .u64 0, .int .u64 0] 91)) := by kernel_rfl
theorem add_cells (a b k : Nat) : bits .and .u64 ((Wd.cy a b k : Int) + (Wd.dg a k : Int) + (Wd.dg b k : Int)) 4294967295 = ((Wd.dg (a + b) k : Nat) : Int) ∧ ((Wd.cy a b k : Int) + (Wd.dg a k : Int) + (Wd.dg b k : Int)) / 4294967296 = ((Wd.cy a b (k + 1) : Nat) : Int) := by
 obtain ⟨e1, e2⟩ := Wd.add_dg a b k
 have l0 := Wd.cy_01 a b k
 have l1 := Wd.dg_lt a k
 have l2 := Wd.dg_lt b k
 rw [castAdd, castAdd, andLow _ (by omega), castDiv, e1, e2]
 exact ⟨rfl, rfl⟩
theorem radd_any (ba bb va vb : Nat) (w : World) (ha : Row w ba va) (hb : Row w bb vb) :
  Calls Tryz.prog 68 #[.slice (some ⟨ba, 0, none⟩) 6 6, .slice (some ⟨bb, 0, none⟩) 6 6] w fun e w' => e = zr (.slice (some ⟨w.heap.size, 0, none⟩) 6 6) ∧ Part w w' w.heap.size (fun j => Wd.dg (va + vb) j) := by
 have hmk := make_six
 have la := ha.2.1
 have lb := hb.2.1
 go_enter Tryz.func68, Tryz.ntmps68
 go_wp2_with fail
 clear hmk
 go_loopw [6, 7] (fun c i wr => ∃ k : Nat, k ≤ 6 ∧ i = vi ki k ∧ c = .int .u64 ((Wd.cy va vb k : Nat) : Int) ∧ Part w wr w.heap.size (fun j => if j < k then Wd.dg (va + vb) j else 0)) (fun _ i _ => 6 - (intOf i).toNat)
 case atStart => exact ⟨0, by omega, rfl, by rw [Wd.cy_zero]; rfl, (zeros w _).congr (fun j _ => by simp)⟩
 case round =>
  obtain ⟨k, hk, rfl, rfl, hP⟩ := hrel
  by_cases hlt : k < 6
  ·have ca : wr.cell? ⟨ba, k, none⟩ = some (.int .u64 ((Wd.dg va k : Nat) : Int)) := (hP.below.cell (p := ⟨ba, k, none⟩) la).trans (ha.2.2 k hlt)
   have cb : wr.cell? ⟨bb, k, none⟩ = some (.int .u64 ((Wd.dg vb k : Nat) : Int)) := (hP.below.cell (p := ⟨bb, k, none⟩) lb).trans (hb.2.2 k hlt)
   have cN := hP.cell k hlt
   have fN := hP.free k hlt
   obtain ⟨e1, e2⟩ := add_cells va vb k
   have l0 := Wd.cy_01 va vb k
   have l1 := Wd.dg_lt va k
   have l2 := Wd.dg_lt vb k
   have hS := Part.set (x := Wd.dg (va + vb) k) hP.drew hlt
   have HS : Hid (Part w (wr.drew.setCell ⟨w.heap.size, k, none⟩ (.int .u64 ((Wd.dg (va + vb) k : Nat) : Int))) w.heap.size (fun j => if j < k + 1 then Wd.dg (va + vb) j else 0)) := hS.congr (fun j _ => by
    by_cases g : j = k
    ·subst g; simp
    ·by_cases g2 : j < k
     ·simp [g, g2, Nat.lt_succ_of_lt g2]
     ·simp [g, g2, show ¬ j < k + 1 by omega])
   have HC : Hid (Wd.cy va vb (k + 1) = Wd.cy va vb (k + 1)) := rfl
   generalize Wd.cy va vb k = C at *
   generalize hC' : Wd.cy va vb (k + 1) = C' at *
   have HC' : Hid (Wd.cy va vb (k + 1) = C') := hC'
   generalize Wd.dg va k = x at *
   generalize Wd.dg vb k = y at *
   generalize Wd.dg (va + vb) k = z at *
   clear hS hP hC' HC
   go_wp2
   go_region
   all_goals (try go_wp2)
   exact ⟨⟨k + 1, by omega, by go_num, by rw [HC'.out], HS.out⟩, by simp [intOf]; omega⟩
  ·have HP : Hid (Part w wr w.heap.size (fun j => Wd.dg (va + vb) j)) := hP.congr (fun j hj => by simp [show j < k by omega])
   clear hP
   go_wp2
   go_ret
   exact ⟨rfl, HP.out⟩
theorem less_cells (a b k : Nat) (h : b ≤ a) : ∃ q : Nat, bits .and .u64 ((Wd.dg a k : Int) + 4294967296 - (Wd.dg b k : Int) - (Wd.bw a b k : Int)) 4294967295 = ((Wd.dg (a - b) k : Nat) : Int) ∧ ((Wd.dg a k : Int) + 4294967296 - (Wd.dg b k : Int) - (Wd.bw a b k : Int)) / 4294967296 = (q : Int) ∧ (1 : Int) - (q : Int) = ((Wd.bw a b (k + 1) : Nat) : Int) := by
 obtain ⟨e1, e2⟩ := Wd.sub_dg a b k h
 have l0 := Wd.bw_01 a b k
 have l1 := Wd.dg_lt a k
 have l2 := Wd.dg_lt b k
 refine ⟨(Wd.dg a k + 4294967296 - Wd.dg b k - Wd.bw a b k) / 4294967296, ?_, ?_, ?_⟩
 ·rw [← e1, show ((Wd.dg a k : Int) + 4294967296 - (Wd.dg b k : Int) - (Wd.bw a b k : Int)) = ((Wd.dg a k + 4294967296 - Wd.dg b k - Wd.bw a b k : Nat) : Int) by omega, andLow _ (by omega)]
 ·rw [show ((Wd.dg a k : Int) + 4294967296 - (Wd.dg b k : Int) - (Wd.bw a b k : Int)) = ((Wd.dg a k + 4294967296 - Wd.dg b k - Wd.bw a b k : Nat) : Int) by omega, castDiv]
 ·rw [← e2]; omega
theorem rless_any (ba bb va vb : Nat) (w : World) (ha : Row w ba va) (hb : Row w bb vb) (hle : vb ≤ va) :
  Calls Tryz.prog 70 #[.slice (some ⟨ba, 0, none⟩) 6 6, .slice (some ⟨bb, 0, none⟩) 6 6] w fun e w' => e = zr (.slice (some ⟨w.heap.size, 0, none⟩) 6 6) ∧ Part w w' w.heap.size (fun j => Wd.dg (va - vb) j) := by
 have hmk := make_six
 have la := ha.2.1
 have lb := hb.2.1
 go_enter Tryz.func70, Tryz.ntmps70
 go_wp2_with fail
 clear hmk
 go_loopw [6, 7] (fun c i wr => ∃ k : Nat, k ≤ 6 ∧ i = vi ki k ∧ c = .int .u64 ((Wd.bw va vb k : Nat) : Int) ∧ Part w wr w.heap.size (fun j => if j < k then Wd.dg (va - vb) j else 0)) (fun _ i _ => 6 - (intOf i).toNat)
 case atStart => exact ⟨0, by omega, rfl, by rw [Wd.bw_zero]; rfl, (zeros w _).congr (fun j _ => by simp)⟩
 case round =>
  obtain ⟨k, hk, rfl, rfl, hP⟩ := hrel
  by_cases hlt : k < 6
  ·have ca : wr.cell? ⟨ba, k, none⟩ = some (.int .u64 ((Wd.dg va k : Nat) : Int)) := (hP.below.cell (p := ⟨ba, k, none⟩) la).trans (ha.2.2 k hlt)
   have cb : wr.cell? ⟨bb, k, none⟩ = some (.int .u64 ((Wd.dg vb k : Nat) : Int)) := (hP.below.cell (p := ⟨bb, k, none⟩) lb).trans (hb.2.2 k hlt)
   have cN := hP.cell k hlt
   have fN := hP.free k hlt
   obtain ⟨q, e1, e2, e3⟩ := less_cells va vb k hle
   have l0 := Wd.bw_01 va vb k
   have l1 := Wd.dg_lt va k
   have l2 := Wd.dg_lt vb k
   have l3 := Wd.bw_01 va vb (k + 1)
   have hS := Part.set (x := Wd.dg (va - vb) k) hP.drew hlt
   have HS : Hid (Part w (wr.drew.setCell ⟨w.heap.size, k, none⟩ (.int .u64 ((Wd.dg (va - vb) k : Nat) : Int))) w.heap.size (fun j => if j < k + 1 then Wd.dg (va - vb) j else 0)) := hS.congr (fun j _ => by
    by_cases g : j = k
    ·subst g; simp
    ·by_cases g2 : j < k
     ·simp [g, g2, Nat.lt_succ_of_lt g2]
     ·simp [g, g2, show ¬ j < k + 1 by omega])
   generalize Wd.bw va vb k = C at *
   generalize hC' : Wd.bw va vb (k + 1) = C' at *
   have HC' : Hid (Wd.bw va vb (k + 1) = C') := hC'
   generalize Wd.dg va k = x at *
   generalize Wd.dg vb k = y at *
   generalize Wd.dg (va - vb) k = z at *
   have lq : q ≤ 1 := by omega
   clear hS hP hC'
   go_wp2
   go_region
   all_goals (try go_wp2)
   exact ⟨⟨k + 1, by omega, by go_num, by rw [HC'.out], HS.out⟩, by simp [intOf]; omega⟩
  ·have HP : Hid (Part w wr w.heap.size (fun j => Wd.dg (va - vb) j)) := hP.congr (fun j hj => by simp [show j < k by omega])
   clear hP
   go_wp2
   go_ret
   exact ⟨rfl, HP.out⟩
def wcmpV (a b : Nat) : Int := if a < b then -1 else if b < a then 1 else 0
theorem cmpV_lt {a b : Nat} (h : a < b) : wcmpV a b = -1 := if_pos h
theorem cmpV_gt {a b : Nat} (h : b < a) : wcmpV a b = 1 := by unfold wcmpV; rw [if_neg (by omega), if_pos h]
theorem cmpV_eq {a b : Nat} (h : a = b) : wcmpV a b = 0 := by unfold wcmpV; rw [if_neg (by omega), if_neg (by omega)]
theorem rcmp_any (ba bb va vb : Nat) (w : World) (ha : Row w ba va) (hb : Row w bb vb) :
  Calls Tryz.prog 69 #[.slice (some ⟨ba, 0, none⟩) 6 6, .slice (some ⟨bb, 0, none⟩) 6 6] w fun e w' => e = zr (vi ki (wcmpV va vb)) ∧ Below w.heap.size w w' := by
 have la := ha.2.1
 have lb := hb.2.1
 go_enter Tryz.func69, Tryz.ntmps69
 go_wp2_with fail
 go_loopw [5] (fun i wr => ∃ j : Int, -1 ≤ j ∧ j ≤ 5 ∧ i = vi ki j ∧ Below w.heap.size w wr ∧ va / 4294967296 ^ (j + 1).toNat = vb / 4294967296 ^ (j + 1).toNat) (fun i _ => (intOf i + 1).toNat)
 case atStart => exact ⟨5, by omega, by omega, rfl, Below.refl _ _, by rw [show ((5 : Int) + 1).toNat = 6 from rfl, Wd.top_six ha.1, Wd.top_six hb.1]⟩
 case round =>
  obtain ⟨j, j1, j2, rfl, hB, hT⟩ := hrel
  by_cases hge : 0 ≤ j
  ·have ca : wr.cell? ⟨ba, j.toNat, none⟩ = some (.int .u64 ((Wd.dg va j.toNat : Nat) : Int)) := (hB.cell (p := ⟨ba, j.toNat, none⟩) la).trans (ha.2.2 j.toNat (by omega))
   have cb : wr.cell? ⟨bb, j.toNat, none⟩ = some (.int .u64 ((Wd.dg vb j.toNat : Nat) : Int)) := (hB.cell (p := ⟨bb, j.toNat, none⟩) lb).trans (hb.2.2 j.toNat (by omega))
   rw [show (j + 1).toNat = j.toNat + 1 by omega] at hT
   by_cases c1 : Wd.dg va j.toNat < Wd.dg vb j.toNat
   ·have HV : Hid (wcmpV va vb = -1) := cmpV_lt (Wd.top_lt hT c1)
    have c1' : ((Wd.dg va j.toNat : Nat) : Int) < ((Wd.dg vb j.toNat : Nat) : Int) := by omega
    clear hT c1
    generalize Wd.dg va j.toNat = x at *
    generalize Wd.dg vb j.toNat = y at *
    go_wp2
    go_region
    all_goals (try go_wp2)
    go_ret
    exact ⟨ret_int HV.out.symm, hB.drew⟩
   ·by_cases c2 : Wd.dg vb j.toNat < Wd.dg va j.toNat
    ·have HV : Hid (wcmpV va vb = 1) := cmpV_gt (Wd.top_lt hT.symm c2)
     have c1' : ¬ ((Wd.dg va j.toNat : Nat) : Int) < ((Wd.dg vb j.toNat : Nat) : Int) := by omega
     have c2' : ((Wd.dg vb j.toNat : Nat) : Int) < ((Wd.dg va j.toNat : Nat) : Int) := by omega
     clear hT c1 c2
     generalize Wd.dg va j.toNat = x at *
     generalize Wd.dg vb j.toNat = y at *
     go_wp2
     go_region
     all_goals (try go_wp2)
     go_region
     all_goals (try go_wp2)
     go_ret
     exact ⟨ret_int HV.out.symm, hB.drew.drew⟩
    ·have HT : Hid (va / 4294967296 ^ j.toNat = vb / 4294967296 ^ j.toNat) := Wd.top_eq hT (by omega)
     have c1' : ¬ ((Wd.dg va j.toNat : Nat) : Int) < ((Wd.dg vb j.toNat : Nat) : Int) := by omega
     have c2' : ¬ ((Wd.dg vb j.toNat : Nat) : Int) < ((Wd.dg va j.toNat : Nat) : Int) := by omega
     clear hT c1 c2
     generalize Wd.dg va j.toNat = x at *
     generalize Wd.dg vb j.toNat = y at *
     go_wp2
     go_region
     all_goals (try go_wp2)
     go_region
     all_goals (try go_wp2)
     exact ⟨⟨j - 1, by omega, by omega, rfl, hB.drew.drew, by rw [show (j - 1 + 1).toNat = j.toNat by omega]; exact HT.out⟩, by simp [intOf]; omega⟩
  ·have HV : Hid (wcmpV va vb = 0) := by
    rw [show (j + 1).toNat = 0 by omega, Wd.top_zero, Wd.top_zero] at hT
    exact cmpV_eq hT
   clear hT
   go_wp2
   go_ret
   exact ⟨ret_int HV.out.symm, hB⟩
theorem Part.row {w wr : World} {N v : Nat} (h : Part w wr N (fun j => Wd.dg v j)) (hv : v < 4294967296 ^ 6) : Row wr N v := ⟨hv, h.size, h.cell⟩
theorem rzero_any (ba va : Nat) (w : World) (ha : Row w ba va) :
  Calls Tryz.prog 73 #[.slice (some ⟨ba, 0, none⟩) 6 6] w fun e w' => e = zr (.bool (decide (va = 0))) ∧ Below w.heap.size w w' := by
 have hmk := make_six
 have hz := (zeros w 91)
 have hr : Row _ w.heap.size 0 := (hz.congr (g := fun j => Wd.dg 0 j) (fun j _ => (Wd.dg_zero j).symm)).row (Wd.pw_pos 6)
 have C1 := rcmp_any ba w.heap.size va 0 _ (ha.below hz.below ha.2.1) hr
 have HB : Hid (Below w.heap.size w (w.alloc (.cells #[.int .u64 0, .int .u64 0, .int .u64 0, .int .u64 0, .int .u64 0, .int .u64 0] 91))) := hz.below
 have HC := C1
 clear hz hr
 by_cases h : va = 0
 ·rw [cmpV_eq h] at C1
  have H1 : Hid (Calls Tryz.prog 69 #[.slice (some ⟨ba, 0, none⟩) 6 6, .slice (some ⟨w.heap.size, 0, none⟩) 6 6] (w.alloc (.cells #[.int .u64 0, .int .u64 0, .int .u64 0, .int .u64 0, .int .u64 0, .int .u64 0] 91)) fun e w' => e = zr (vi ki 0) ∧ Below (w.heap.size + 1) (w.alloc (.cells #[.int .u64 0, .int .u64 0, .int .u64 0, .int .u64 0, .int .u64 0, .int .u64 0] 91)) w') := by have c := C1; simp at c; exact c
  clear C1 HC
  go_enter Tryz.func73, Tryz.ntmps73
  go_wp2_with fail
  refine (H1.out).mono ?_
  rintro e w1 ⟨rfl, hb⟩
  go_wp2
  go_ret
  exact ⟨wret_bool (by simp [h]), HB.out.trans (hb.mono (by omega))⟩
 ·rw [cmpV_gt (by omega)] at C1
  have H1 : Hid (Calls Tryz.prog 69 #[.slice (some ⟨ba, 0, none⟩) 6 6, .slice (some ⟨w.heap.size, 0, none⟩) 6 6] (w.alloc (.cells #[.int .u64 0, .int .u64 0, .int .u64 0, .int .u64 0, .int .u64 0, .int .u64 0] 91)) fun e w' => e = zr (vi ki 1) ∧ Below (w.heap.size + 1) (w.alloc (.cells #[.int .u64 0, .int .u64 0, .int .u64 0, .int .u64 0, .int .u64 0, .int .u64 0] 91)) w') := by have c := C1; simp at c; exact c
  clear C1 HC
  go_enter Tryz.func73, Tryz.ntmps73
  go_wp2_with fail
  refine (H1.out).mono ?_
  rintro e w1 ⟨rfl, hb⟩
  go_wp2
  go_ret
  exact ⟨wret_bool (by simp [h]), HB.out.trans (hb.mono (by omega))⟩
theorem Row.alloc {w : World} {b v : Nat} (h : Row w b v) (o : Obj) : Row (w.alloc o) b v :=
 h.below ((Below.refl w.heap.size w).alloc (Nat.le_refl _) o) h.2.1
theorem size3 {w : World} (o1 o2 o3 : Obj) : (((w.alloc o1).alloc o2).alloc o3).heap.size = w.heap.size + 1 + 1 + 1 := by simp
theorem after3 {w w1 : World} {o1 o2 o3 : Obj} (h : Below (w.heap.size + 1 + 1 + 1) (((w.alloc o1).alloc o2).alloc o3) w1) :
  (∀ b o, b < w.heap.size + 1 + 1 + 1 → w1.cell? ⟨b, o, none⟩ = (((w.alloc o1).alloc o2).alloc o3).cell? ⟨b, o, none⟩) ∧ (∀ b o, b < w.heap.size + 1 + 1 + 1 → w1.frozen? ⟨b, o, none⟩ = (((w.alloc o1).alloc o2).alloc o3).frozen? ⟨b, o, none⟩) :=
 ⟨fun b o hb => h.cell (p := ⟨b, o, none⟩) hb, fun b o hb => h.frozen (p := ⟨b, o, none⟩) hb⟩
abbrev box (n : Bool) (b : Nat) : Obj := .cells #[.bool n, .slice (some ⟨b, 0, none⟩) 6 6] 102
abbrev nobox : Obj := .cells #[.bool false, .slice none 0 0] 102
theorem three {w : World} (o1 o2 o3 : Obj) : Below w.heap.size w (((w.alloc o1).alloc o2).alloc o3) :=
 (((Below.refl _ _).alloc (Nat.le_refl _) _).alloc (by simp) _).alloc (by simp; omega) _
theorem Row.setCell {w : World} {b v : Nat} (h : Row w b v) {a : Addr} (ha : a.block ≠ b) (x : Value) : Row (w.setCell a x) b v :=
 ⟨h.1, by simpa [World.setCell] using h.2.1, fun i hi => (World.cell?_setCell_other _ _ _ _ (fun e => ha (by rw [e]))).trans (h.2.2 i hi)⟩
theorem wkeep2 {w1 : World} {N M : Nat} (h : M ≠ N) (x y : Value) (o : Nat) : ((w1.setCell ⟨M, 0, none⟩ x).setCell ⟨M, 1, none⟩ y).cell? ⟨N, o, none⟩ = w1.cell? ⟨N, o, none⟩ :=
 (World.cell?_setCell_other _ _ _ _ (fun e => h (by cases e; rfl))).trans (World.cell?_setCell_other _ _ _ _ (fun e => h (by cases e; rfl)))
theorem boxes {w w1 : World} {n m : Bool} {ba bb : Nat} (h : Below (w.heap.size + 1 + 1 + 1) (((w.alloc (box n ba)).alloc (box m bb)).alloc nobox) w1) :
  w1.cell? ⟨w.heap.size, 0, none⟩ = some (.bool n) ∧ w1.cell? ⟨w.heap.size, 1, none⟩ = some (.slice (some ⟨ba, 0, none⟩) 6 6) ∧ w1.cell? ⟨w.heap.size + 1, 0, none⟩ = some (.bool m) ∧ w1.cell? ⟨w.heap.size + 1, 1, none⟩ = some (.slice (some ⟨bb, 0, none⟩) 6 6) ∧
  w1.cell? ⟨w.heap.size + 1 + 1, 0, none⟩ = some (.bool false) ∧ w1.cell? ⟨w.heap.size + 1 + 1, 1, none⟩ = some (.slice none 0 0) ∧ w1.frozen? ⟨w.heap.size + 1 + 1, 0, none⟩ = false ∧ w1.frozen? ⟨w.heap.size + 1 + 1, 1, none⟩ = false := by
 obtain ⟨hc, hf⟩ := after3 h
 refine ⟨?_, ?_, ?_, ?_, ?_, ?_, ?_, ?_⟩
 ·rw [hc _ _ (by omega), World.cell?_alloc_past _ _ _ (by simp; omega), World.cell?_alloc_past _ _ _ (by simp), World.cell?_alloc_at _ _ _ _ rfl]; rfl
 ·rw [hc _ _ (by omega), World.cell?_alloc_past _ _ _ (by simp; omega), World.cell?_alloc_past _ _ _ (by simp), World.cell?_alloc_at _ _ _ _ rfl]; rfl
 ·rw [hc _ _ (by omega), World.cell?_alloc_past _ _ _ (by simp), World.cell?_alloc_at _ _ _ _ (by simp)]; rfl
 ·rw [hc _ _ (by omega), World.cell?_alloc_past _ _ _ (by simp), World.cell?_alloc_at _ _ _ _ (by simp)]; rfl
 ·rw [hc _ _ (by omega), World.cell?_alloc_at _ _ _ _ (by simp)]; rfl
 ·rw [hc _ _ (by omega), World.cell?_alloc_at _ _ _ _ (by simp)]; rfl
 ·rw [hf _ _ (by omega), World.frozen?_alloc_at _ _ _ _ (by simp)]
 ·rw [hf _ _ (by omega), World.frozen?_alloc_at _ _ _ _ (by simp)]
theorem plus_same (n : Bool) (ba bb va vb : Nat) (w : World) (ha : Row w ba va) (hb : Row w bb vb) (hv : va + vb < 4294967296 ^ 6) :
  Calls Tryz.prog 45 #[.agg #[.bool n, .slice (some ⟨ba, 0, none⟩) 6 6], .agg #[.bool n, .slice (some ⟨bb, 0, none⟩) 6 6]] w fun e w' => ∃ b, e = zr (.agg #[.bool n, .slice (some ⟨b, 0, none⟩) 6 6]) ∧ Below w.heap.size w w' ∧ w.heap.size ≤ b ∧ Row w' b (va + vb) := by
 have C1 := radd_any ba bb va vb (((w.alloc (box n ba)).alloc (box n bb)).alloc nobox).drew (((ha.alloc _).alloc _).alloc _) (((hb.alloc _).alloc _).alloc _)
 rw [show (((w.alloc (box n ba)).alloc (box n bb)).alloc nobox).drew.heap.size = w.heap.size + 1 + 1 + 1 from size3 _ _ _] at C1
 have HC : Hid (Calls Tryz.prog 68 #[.slice (some ⟨ba, 0, none⟩) 6 6, .slice (some ⟨bb, 0, none⟩) 6 6] (((w.alloc (box n ba)).alloc (box n bb)).alloc nobox).drew fun e w' => e = zr (.slice (some ⟨w.heap.size + 1 + 1 + 1, 0, none⟩) 6 6) ∧ Part (((w.alloc (box n ba)).alloc (box n bb)).alloc nobox).drew w' (w.heap.size + 1 + 1 + 1) (fun j => Wd.dg (va + vb) j)) := C1
 clear C1
 go_enter Tryz.func45, Tryz.ntmps45
 go_wp2_with fail
 go_region_held3 (fun w' => w'.cell? ⟨w.heap.size, 0, none⟩ = some (.bool n) ∧ w'.cell? ⟨w.heap.size, 1, none⟩ = some (.slice (some ⟨ba, 0, none⟩) 6 6) ∧ w'.cell? ⟨w.heap.size + 1, 1, none⟩ = some (.slice (some ⟨bb, 0, none⟩) 6 6)) (((try dsimp only); (repeat' apply And.intro); (all_goals (first | assumption | (refine (wkeep2 ?_ _ _ _).trans ?_; omega; assumption) | go_keep)))) (first | (go_at_call 68; refine HC.out.mono ?_; rintro e w1 ⟨rfl, hP⟩; obtain ⟨c1, c2, c3, c4, c5, c6, f5, f6⟩ := boxes (Below.trans (Below.drew (Below.refl _ _)) hP.below); have hz := hP.size; have HP : Hid _ := hP; clear hP))
 all_goals
  go_wp2
  refine bodyPost_ret (v := .agg #[.bool n, .slice (some ⟨w.heap.size + 1 + 1 + 1, 0, none⟩) 6 6]) (by simp [results, Tryz.results45, go_sem, c5, c6]) rfl ⟨_, rfl, ?_⟩
  have hP := HP.out
  refine ⟨((((three _ _ _).drew).trans (hP.below.mono (by omega))).setCell (Nat.le_trans (Nat.le_add_right _ 2) (Nat.le_refl _)) _).setCell (Nat.le_trans (Nat.le_add_right _ 2) (Nat.le_refl _)) _, by omega, ?_⟩
  exact ((hP.row hv).setCell (Nat.ne_of_lt (Nat.lt_succ_self _)) _).setCell (Nat.ne_of_lt (Nat.lt_succ_self _)) _
theorem plus_lt (n m : Bool) (hnm : (n == m) = false) (ba bb va vb : Nat) (w : World) (ha : Row w ba va) (hb : Row w bb vb) (hlt : va < vb) :
  Calls Tryz.prog 45 #[.agg #[.bool n, .slice (some ⟨ba, 0, none⟩) 6 6], .agg #[.bool m, .slice (some ⟨bb, 0, none⟩) 6 6]] w fun e w' => ∃ b, e = zr (.agg #[.bool m, .slice (some ⟨b, 0, none⟩) 6 6]) ∧ Below w.heap.size w w' ∧ w.heap.size ≤ b ∧ Row w' b (vb - va) := by
 have C1 := rcmp_any ba bb va vb (((w.alloc (box n ba)).alloc (box m bb)).alloc nobox) (((ha.alloc _).alloc _).alloc _) (((hb.alloc _).alloc _).alloc _)
 rw [cmpV_lt hlt, size3] at C1
 have HC : Hid (Calls Tryz.prog 69 #[.slice (some ⟨ba, 0, none⟩) 6 6, .slice (some ⟨bb, 0, none⟩) 6 6] (((w.alloc (box n ba)).alloc (box m bb)).alloc nobox) fun e w' => e = zr (vi ki (-1)) ∧ Below (w.heap.size + 1 + 1 + 1) (((w.alloc (box n ba)).alloc (box m bb)).alloc nobox) w') := C1
 clear C1
 go_enter Tryz.func45, Tryz.ntmps45
 go_wp2_with fail
 refine HC.out.mono ?_
 rintro e w1 ⟨rfl, hB⟩
 have HB : Hid (Below (w.heap.size + 1 + 1 + 1) (((w.alloc (box n ba)).alloc (box m bb)).alloc nobox) w1) := hB
 have HA : Hid (Row w1 ba va) := ((((ha.alloc _).alloc _).alloc _).below hB (by have := ha.2.1; omega))
 have HA2 : Hid (Row w1 bb vb) := ((((hb.alloc _).alloc _).alloc _).below hB (by have := hb.2.1; omega))
 have HZ : Hid (w.heap.size + 1 + 1 + 1 ≤ w1.heap.size) := by have := hB.size; rw [size3] at this; exact this
 obtain ⟨c1, c2, c3, c4, c5, c6, f5, f6⟩ := boxes hB
 clear hB
 go_wp2_with fail
 go_region_held3 (fun w' => w'.cell? ⟨w.heap.size, 0, none⟩ = some (.bool n) ∧ w'.cell? ⟨w.heap.size, 1, none⟩ = some (.slice (some ⟨ba, 0, none⟩) 6 6) ∧ w'.cell? ⟨w.heap.size + 1, 0, none⟩ = some (.bool m) ∧ w'.cell? ⟨w.heap.size + 1, 1, none⟩ = some (.slice (some ⟨bb, 0, none⟩) 6 6)) (((try dsimp only); (repeat' apply And.intro); (all_goals (first | assumption | (refine (wkeep2 ?_ _ _ _).trans ?_; omega; assumption) | go_keep)))) (first | (go_at_call 70; refine (rless_any bb ba vb va _ ?_ ?_ (Nat.le_of_lt hlt)).mono ?_; exact HA2.out; exact HA.out; rintro e w2 ⟨rfl, hP⟩; obtain ⟨c1, c2, c3, c4, c5, c6, f5, f6⟩ := boxes (HB.out.drew.trans (hP.below.mono HZ.out)); have HP : Hid _ := hP; clear hP))
 all_goals
  go_wp2
  refine bodyPost_ret (v := .agg #[.bool m, .slice (some ⟨w1.heap.size, 0, none⟩) 6 6]) (by simp [results, Tryz.results45, go_sem, c5, c6]) rfl ⟨_, rfl, ?_⟩
  have hP := HP.out
  have hz := HZ.out
  refine ⟨((((three _ _ _).trans (HB.out.drew.mono (by omega))).trans (hP.below.mono (Nat.le_trans (by omega) hz))).setCell (Nat.le_trans (Nat.le_add_right _ 2) (Nat.le_refl _)) _).setCell (Nat.le_trans (Nat.le_add_right _ 2) (Nat.le_refl _)) _, by omega, ?_⟩
  exact ((hP.row (Nat.lt_of_le_of_lt (Nat.sub_le _ _) hb.1)).setCell (show w.heap.size + 1 + 1 ≠ w1.heap.size from by omega) _).setCell (show w.heap.size + 1 + 1 ≠ w1.heap.size from by omega) _
theorem two2 {w : World} (o1 o2 : Obj) : Below w.heap.size w ((w.alloc o1).alloc o2) := ((Below.refl _ _).alloc (Nat.le_refl _) _).alloc (by simp) _
theorem box0 {w : World} (n : Bool) (ba : Nat) (o : Obj) (i : Nat) : ((w.alloc (box n ba)).alloc o).cell? ⟨w.heap.size, i, none⟩ = (#[Value.bool n, .slice (some ⟨ba, 0, none⟩) 6 6] : Array Value)[i]? := by
 rw [World.cell?_alloc_past _ _ _ (by simp), World.cell?_alloc_at _ _ _ _ rfl]
theorem minus_true (ba va : Nat) (w : World) (ha : Row w ba va) :
  Calls Tryz.prog 47 #[.agg #[.bool true, .slice (some ⟨ba, 0, none⟩) 6 6]] w fun e w' => e = zr (.agg #[.bool false, .slice (some ⟨ba, 0, none⟩) 6 6]) ∧ Below w.heap.size w w' := by
 go_enter Tryz.func47, Tryz.ntmps47
 go_wp2_with fail
 refine wp_region_held_drew (S := (fun w' => w'.cell? ⟨w.heap.size, 0, none⟩ = some (.bool true) ∧ w'.cell? ⟨w.heap.size, 1, none⟩ = some (.slice (some ⟨ba, 0, none⟩) 6 6))) (by kernel_rfl) ⟨box0 _ _ _ _, box0 _ _ _ _⟩ (fun hHeld => ?_)
 refine wpAnyH_take (i := 0) (v := ?_) rfl (by kernel_rfl) (by kernel_rfl) (by kernel_rfl) (fun _ _ _ h => h) (Or.inl ⟨by rfl, ?_⟩) (by assumption) ?_
 case refine_2 => (intro w9 hSw; (try dsimp only at hSw); obtain ⟨s0, s1⟩ := hSw; go_simp; try with_reducible rfl)
 refine wpAnyH_take (i := 1) (v := ?_) rfl (by kernel_rfl) (by kernel_rfl) (by kernel_rfl) (fun _ _ _ h => h) (Or.inl ⟨by rfl, ?_⟩) (by assumption) ?_
 case refine_2 => (intro w9 hSw; (try dsimp only at hSw); obtain ⟨s0, s1⟩ := hSw; go_simp; try with_reducible rfl)
 refine wpAnyH_take (i := 2) (v := ?_) rfl (by kernel_rfl) (by kernel_rfl) (by kernel_rfl) (fun _ _ _ h => h) (Or.inl ⟨by rfl, ?_⟩) (by assumption) ?_
 case refine_2 => (intro w9 hSw; (try dsimp only at hSw); obtain ⟨s0, s1⟩ := hSw; go_simp; try with_reducible rfl)
 refine wpAnyH_take (i := 3) (v := ?_) rfl (by kernel_rfl) (by kernel_rfl) (by kernel_rfl) (fun _ _ _ h => h) (Or.inl ⟨by rfl, ?_⟩) (by assumption) ?_
 case refine_2 => (intro w9 hSw; (try dsimp only at hSw); obtain ⟨s0, s1⟩ := hSw; go_simp; try with_reducible rfl)
 refine wpAnyH_take (i := 4) (v := undef) rfl (by kernel_rfl) (by kernel_rfl) (by kernel_rfl) (fun _ _ _ h => h) (Or.inr ⟨by rfl, rfl⟩) (by assumption) ?_
 refine wpAnyH_take (i := 5) (v := undef) rfl (by kernel_rfl) (by kernel_rfl) (by kernel_rfl) (fun _ _ _ h => h) (Or.inr ⟨by rfl, rfl⟩) (by assumption) ?_
 refine wpAnyH_take (i := 6) (v := undef) rfl (by kernel_rfl) (by kernel_rfl) (by kernel_rfl) (fun _ _ _ h => h) (Or.inr ⟨by rfl, rfl⟩) (by assumption) ?_
 refine wpAnyH_take (i := 7) (v := undef) rfl (by kernel_rfl) (by kernel_rfl) (by kernel_rfl) (fun _ _ _ h => h) (Or.inr ⟨by rfl, rfl⟩) (by assumption) ?_
 refine wpAnyH_take (i := 8) (v := ?_) rfl (by kernel_rfl) (by kernel_rfl) (by kernel_rfl) (fun _ _ _ h => h) (Or.inl ⟨by rfl, ?_⟩) (by assumption) ?_
 case refine_2 => (intro w9 hSw; (try dsimp only at hSw); obtain ⟨s0, s1⟩ := hSw; go_simp; try with_reducible rfl)
 refine wpAnyH_take (i := 9) (v := ?_) rfl (by kernel_rfl) (by kernel_rfl) (by kernel_rfl) (fun _ _ _ h => h) (Or.inl ⟨by rfl, ?_⟩) (by assumption) ?_
 case refine_2 => (intro w9 hSw; (try dsimp only at hSw); obtain ⟨s0, s1⟩ := hSw; go_simp; try with_reducible rfl)
 refine wpAnyH_take (i := 10) (v := ?_) rfl (by kernel_rfl) (by kernel_rfl) (by kernel_rfl) (fun _ _ _ h => h) (Or.inl ⟨by rfl, ?_⟩) (by assumption) ?_
 case refine_2 => (intro w9 hSw; (try dsimp only at hSw); obtain ⟨s0, s1⟩ := hSw; go_simp; try with_reducible rfl)
 refine wpAnyH_take (i := 11) (v := ?_) rfl (by kernel_rfl) (by kernel_rfl) (by kernel_rfl) (fun _ _ _ h => h) (Or.inl ⟨by rfl, ?_⟩) (by assumption) ?_
 case refine_2 => (intro w9 hSw; (try dsimp only at hSw); obtain ⟨s0, s1⟩ := hSw; go_simp; try with_reducible rfl)
 refine rd 12 ⟨none, _, _, _, _, none⟩ rfl (fun K hK => ?_)
 go_simp
 refine hK.out _ _ ⟨box0 _ _ _ _, box0 _ _ _ _⟩ (fun hHeld => ?_)
 clear hK K
 refine wpAnyH_done (by kernel_rfl) ?_ _
 go_wp2
 exact bodyPost_ret (v := .agg #[.bool false, .slice (some ⟨ba, 0, none⟩) 6 6]) (by simp [results, Tryz.results47, go_sem]) rfl ⟨rfl, (two2 _ _).drew⟩
theorem plus_ge_false (ba bb va vb : Nat) (w : World) (ha : Row w ba va) (hb : Row w bb vb) (hle : vb ≤ va) :
  Calls Tryz.prog 45 #[.agg #[.bool false, .slice (some ⟨ba, 0, none⟩) 6 6], .agg #[.bool true, .slice (some ⟨bb, 0, none⟩) 6 6]] w fun e w' => ∃ b, e = zr (.agg #[.bool false, .slice (some ⟨b, 0, none⟩) 6 6]) ∧ Below w.heap.size w w' ∧ w.heap.size ≤ b ∧ Row w' b (va - vb) := by
 have C1 := rcmp_any ba bb va vb (((w.alloc (box false ba)).alloc (box true bb)).alloc nobox) (((ha.alloc _).alloc _).alloc _) (((hb.alloc _).alloc _).alloc _)
 rw [size3] at C1
 have hcv : 0 ≤ wcmpV va vb := by unfold wcmpV; split <;> (try split) <;> omega
 generalize wcmpV va vb = cv at *
 have HC : Hid (Calls Tryz.prog 69 #[.slice (some ⟨ba, 0, none⟩) 6 6, .slice (some ⟨bb, 0, none⟩) 6 6] (((w.alloc (box false ba)).alloc (box true bb)).alloc nobox) fun e w' => e = zr (vi ki cv) ∧ Below (w.heap.size + 1 + 1 + 1) (((w.alloc (box false ba)).alloc (box true bb)).alloc nobox) w') := C1
 clear C1
 go_enter Tryz.func45, Tryz.ntmps45
 go_wp2_with fail
 refine HC.out.mono ?_
 rintro e w1 ⟨rfl, hB⟩
 have HB : Hid (Below (w.heap.size + 1 + 1 + 1) (((w.alloc (box false ba)).alloc (box true bb)).alloc nobox) w1) := hB
 have HA : Hid (Row w1 ba va) := ((((ha.alloc _).alloc _).alloc _).below hB (by have := ha.2.1; omega))
 have HA2 : Hid (Row w1 bb vb) := ((((hb.alloc _).alloc _).alloc _).below hB (by have := hb.2.1; omega))
 have HZ : Hid (w.heap.size + 1 + 1 + 1 ≤ w1.heap.size) := by have := hB.size; rw [size3] at this; exact this
 obtain ⟨c1, c2, c3, c4, c5, c6, f5, f6⟩ := boxes hB
 clear hB
 go_wp2_with fail
 refine wp_region_held_drew (S := (fun w' => w'.cell? ⟨w.heap.size, 0, none⟩ = some (.bool false) ∧ w'.cell? ⟨w.heap.size, 1, none⟩ = some (.slice (some ⟨ba, 0, none⟩) 6 6) ∧ w'.cell? ⟨w.heap.size + 1, 1, none⟩ = some (.slice (some ⟨bb, 0, none⟩) 6 6))) (by kernel_rfl) ⟨c1, c2, c4⟩ (fun hHeld => ?_)
 refine wpAnyH_take (i := 0) (v := ?_) rfl (by kernel_rfl) (by kernel_rfl) (by kernel_rfl) (fun _ _ _ h => h) (Or.inl ⟨by kernel_rfl, ?_⟩) (by assumption) ?_
 case refine_2 => (intro w9 hSw; (try dsimp only at hSw); obtain ⟨s0, s1, s2⟩ := hSw; go_simp; try with_reducible rfl)
 refine wpAnyH_take (i := 1) (v := ?_) rfl (by kernel_rfl) (by kernel_rfl) (by kernel_rfl) (fun _ _ _ h => h) (Or.inl ⟨by kernel_rfl, ?_⟩) (by assumption) ?_
 case refine_2 => (intro w9 hSw; (try dsimp only at hSw); obtain ⟨s0, s1, s2⟩ := hSw; go_simp; try with_reducible rfl)
 refine wpAnyH_take (i := 2) (v := ?_) rfl (by kernel_rfl) (by kernel_rfl) (by kernel_rfl) (fun _ _ _ h => h) (Or.inl ⟨by kernel_rfl, ?_⟩) (by assumption) ?_
 case refine_2 => (intro w9 hSw; (try dsimp only at hSw); obtain ⟨s0, s1, s2⟩ := hSw; go_simp; try with_reducible rfl)
 refine wpAnyH_take (i := 3) (v := undef) rfl (by kernel_rfl) (by kernel_rfl) (by kernel_rfl) (fun _ _ _ h => h) (Or.inr ⟨by kernel_rfl, rfl⟩) (by assumption) ?_
 refine wpAnyH_take (i := 4) (v := undef) rfl (by kernel_rfl) (by kernel_rfl) (by kernel_rfl) (fun _ _ _ h => h) (Or.inr ⟨by kernel_rfl, rfl⟩) (by assumption) ?_
 refine wpAnyH_take (i := 5) (v := undef) rfl (by kernel_rfl) (by kernel_rfl) (by kernel_rfl) (fun _ _ _ h => h) (Or.inr ⟨by kernel_rfl, rfl⟩) (by assumption) ?_
 refine wpAnyH_take (i := 6) (v := undef) rfl (by kernel_rfl) (by kernel_rfl) (by kernel_rfl) (fun _ _ _ h => h) (Or.inr ⟨by kernel_rfl, rfl⟩) (by assumption) ?_
 refine wpAnyH_take (i := 7) (v := undef) rfl (by kernel_rfl) (by kernel_rfl) (by kernel_rfl) (fun _ _ _ h => h) (Or.inr ⟨by kernel_rfl, rfl⟩) (by assumption) ?_
 refine wpAnyH_take (i := 8) (v := undef) rfl (by kernel_rfl) (by kernel_rfl) (by kernel_rfl) (fun _ _ _ h => h) (Or.inr ⟨by kernel_rfl, rfl⟩) (by assumption) ?_
 refine wpAnyH_take (i := 9) (v := ?_) rfl (by kernel_rfl) (by kernel_rfl) (by kernel_rfl) (fun _ _ _ h => h) (Or.inl ⟨by kernel_rfl, ?_⟩) (by assumption) ?_
 case refine_2 => (intro w9 hSw; (try dsimp only at hSw); obtain ⟨s0, s1, s2⟩ := hSw; go_simp; try with_reducible rfl)
 refine wpAnyH_take (i := 10) (v := ?_) rfl (by kernel_rfl) (by kernel_rfl) (by kernel_rfl) (fun _ _ _ h => h) (Or.inl ⟨by kernel_rfl, ?_⟩) (by assumption) ?_
 case refine_2 => (intro w9 hSw; (try dsimp only at hSw); obtain ⟨s0, s1, s2⟩ := hSw; go_simp; try with_reducible rfl)
 refine wpAnyH_take (i := 11) (v := ?_) rfl (by kernel_rfl) (by kernel_rfl) (by kernel_rfl) (fun _ _ _ h => h) (Or.inl ⟨by kernel_rfl, ?_⟩) (by assumption) ?_
 case refine_2 => (intro w9 hSw; (try dsimp only at hSw); obtain ⟨s0, s1, s2⟩ := hSw; go_simp; try with_reducible rfl)
 refine wpAnyH_take (i := 12) (v := ?_) rfl (by kernel_rfl) (by kernel_rfl) (by kernel_rfl) (fun _ _ _ h => h) (Or.inl ⟨by kernel_rfl, ?_⟩) (by assumption) ?_
 case refine_2 => (intro w9 hSw; (try dsimp only at hSw); obtain ⟨s0, s1, s2⟩ := hSw; go_simp; try with_reducible rfl)
 refine wpAnyH_take (i := 13) (v := ?_) rfl (by kernel_rfl) (by kernel_rfl) (by kernel_rfl) (fun _ _ _ h => h) (Or.inl ⟨by kernel_rfl, ?_⟩) (by assumption) ?_
 case refine_2 => (intro w9 hSw; (try dsimp only at hSw); obtain ⟨s0, s1, s2⟩ := hSw; go_simp; try with_reducible rfl)
 refine rd 14 ⟨some 38, _, _, _, _, none⟩ rfl (fun K hK => ?_)
 go_simp
 refine (rless_any ba bb va vb w1.drew HA.out.drew HA2.out.drew hle).mono ?_
 rintro e w2 ⟨rfl, hP⟩
 obtain ⟨d1, d2, d3, d4, d5, d6, g5, g6⟩ := boxes (HB.out.drew.trans (hP.below.mono HZ.out))
 have HP : Hid _ := hP
 clear hP
 refine hK.out _ _ ⟨d1, d2, d4⟩ (fun hHeld => ?_)
 clear hK K
 refine wpAnyH_take (i := 15) (v := ?_) rfl (by kernel_rfl) (by kernel_rfl) (by kernel_rfl) (fun _ _ _ h => h) (Or.inl ⟨by kernel_rfl, ?_⟩) (by assumption) ?_
 case refine_2 => (intro w9 hSw; (try dsimp only at hSw); obtain ⟨s0, s1, s2⟩ := hSw; go_simp; try with_reducible rfl)
 refine rd 16 ⟨none, _, _, _, _, none⟩ rfl (fun K hK => ?_)
 go_simp
 refine hK.out _ _ ⟨(wkeep2 (by omega) _ _ _).trans d1, (wkeep2 (by omega) _ _ _).trans d2, (wkeep2 (by omega) _ _ _).trans d4⟩ (fun hHeld => ?_)
 clear hK K
 refine wpAnyH_done (by kernel_rfl) ?_ _
 go_wp2
 refine bodyPost_ret (v := .agg #[.bool false, .slice (some ⟨w1.heap.size, 0, none⟩) 6 6]) (by simp [results, Tryz.results45, go_sem, d5, d6]) rfl ⟨_, rfl, ?_⟩
 have hP := HP.out
 have hz := HZ.out
 refine ⟨((((three _ _ _).trans (HB.out.drew.mono (by omega))).trans (hP.below.mono (Nat.le_trans (by omega) hz))).setCell (Nat.le_trans (Nat.le_add_right _ 2) (Nat.le_refl _)) _).setCell (Nat.le_trans (Nat.le_add_right _ 2) (Nat.le_refl _)) _, by omega, ?_⟩
 exact ((hP.row (Nat.lt_of_le_of_lt (Nat.sub_le _ _) ha.1)).setCell (show w.heap.size + 1 + 1 ≠ w1.heap.size from by omega) _).setCell (show w.heap.size + 1 + 1 ≠ w1.heap.size from by omega) _
theorem wat_world {P : Program} {c : Code} {Q : Exit → Act → World → Prop} {a : Act} {w1 w2 : World} (h : w1 = w2) (k : Code.wp P c Q a w2) : Code.wp P c Q a w1 := by subst h; exact k
theorem plus_ge_true (ba bb va vb : Nat) (w : World) (ha : Row w ba va) (hb : Row w bb vb) (hle : vb ≤ va) :
  Calls Tryz.prog 45 #[.agg #[.bool true, .slice (some ⟨ba, 0, none⟩) 6 6], .agg #[.bool false, .slice (some ⟨bb, 0, none⟩) 6 6]] w fun e w' => ∃ b, e = zr (.agg #[.bool (decide (0 < wcmpV va vb)), .slice (some ⟨b, 0, none⟩) 6 6]) ∧ Below w.heap.size w w' ∧ w.heap.size ≤ b ∧ Row w' b (va - vb) := by
 have C1 := rcmp_any ba bb va vb (((w.alloc (box true ba)).alloc (box false bb)).alloc nobox) (((ha.alloc _).alloc _).alloc _) (((hb.alloc _).alloc _).alloc _)
 rw [size3] at C1
 have hcv : 0 ≤ wcmpV va vb := by unfold wcmpV; split <;> (try split) <;> omega
 have CC : Hid (∀ w : World, Row w ba va → Row w bb vb → Calls Tryz.prog 69 #[.slice (some ⟨ba, 0, none⟩) 6 6, .slice (some ⟨bb, 0, none⟩) 6 6] w fun e w' => e = zr (vi ki (wcmpV va vb)) ∧ Below w.heap.size w w') := fun w h1 h2 => rcmp_any ba bb va vb w h1 h2
 generalize wcmpV va vb = cv at *
 have HC : Hid (Calls Tryz.prog 69 #[.slice (some ⟨ba, 0, none⟩) 6 6, .slice (some ⟨bb, 0, none⟩) 6 6] (((w.alloc (box true ba)).alloc (box false bb)).alloc nobox) fun e w' => e = zr (vi ki cv) ∧ Below (w.heap.size + 1 + 1 + 1) (((w.alloc (box true ba)).alloc (box false bb)).alloc nobox) w') := C1
 clear C1
 go_enter Tryz.func45, Tryz.ntmps45
 go_wp2_with fail
 refine HC.out.mono ?_
 rintro e w1 ⟨rfl, hB⟩
 have HB : Hid (Below (w.heap.size + 1 + 1 + 1) (((w.alloc (box true ba)).alloc (box false bb)).alloc nobox) w1) := hB
 have HA : Hid (Row w1 ba va) := ((((ha.alloc _).alloc _).alloc _).below hB (by have := ha.2.1; omega))
 have HA2 : Hid (Row w1 bb vb) := ((((hb.alloc _).alloc _).alloc _).below hB (by have := hb.2.1; omega))
 have HZ : Hid (w.heap.size + 1 + 1 + 1 ≤ w1.heap.size) := by have := hB.size; rw [size3] at this; exact this
 obtain ⟨c1, c2, c3, c4, c5, c6, f5, f6⟩ := boxes hB
 clear hB
 go_wp2_with fail
 refine wp_region_held_drew (S := (fun w' => w'.cell? ⟨w.heap.size, 0, none⟩ = some (.bool true) ∧ w'.cell? ⟨w.heap.size, 1, none⟩ = some (.slice (some ⟨ba, 0, none⟩) 6 6) ∧ w'.cell? ⟨w.heap.size + 1, 1, none⟩ = some (.slice (some ⟨bb, 0, none⟩) 6 6))) (by kernel_rfl) ⟨c1, c2, c4⟩ (fun hHeld => ?_)
 refine tks 0 ⟨some 24, _, _, _, _, none⟩ rfl ?_
 simp only [za, zb, zc, zd]
 refine tk (v := ?_) 1 ⟨some 25, _, _, _, _, none⟩ rfl ?_ ?_
 case refine_2 => (intro w9 hSw; obtain ⟨s0, s1, s2⟩ := hSw; go_simp; try with_reducible rfl)
 simp only [za, zb, zc, zd]
 refine tks 2 ⟨some 26, _, _, _, _, none⟩ rfl ?_
 simp only [za, zb, zc, zd]
 refine tks 3 ⟨some 27, _, _, _, _, some (2, true)⟩ rfl ?_
 simp only [za, zb, zc, zd]
 refine tk (v := ?_) 4 ⟨some 28, _, _, _, _, some (2, true)⟩ rfl ?_ ?_
 case refine_2 => (intro w9 hSw; obtain ⟨s0, s1, s2⟩ := hSw; go_simp; try with_reducible rfl)
 simp only [za, zb, zc, zd]
 refine tks 5 ⟨some 29, _, _, _, _, some (2, true)⟩ rfl ?_
 simp only [za, zb, zc, zd]
 refine tk (v := ?_) 6 ⟨some 30, _, _, _, _, some (2, true)⟩ rfl ?_ ?_
 case refine_2 => (intro w9 hSw; obtain ⟨s0, s1, s2⟩ := hSw; go_simp; try with_reducible rfl)
 simp only [za, zb, zc, zd]
 refine tks 10 ⟨some 34, _, _, _, _, none⟩ rfl ?_
 simp only [za, zb, zc, zd]
 refine tk (v := ?_) 11 ⟨some 35, _, _, _, _, none⟩ rfl ?_ ?_
 case refine_2 => (intro w9 hSw; obtain ⟨s0, s1, s2⟩ := hSw; go_simp; try with_reducible rfl)
 simp only [za, zb, zc, zd]
 refine tks 12 ⟨some 36, _, _, _, _, none⟩ rfl ?_
 simp only [za, zb, zc, zd]
 refine tk (v := ?_) 13 ⟨some 37, _, _, _, _, none⟩ rfl ?_ ?_
 case refine_2 => (intro w9 hSw; obtain ⟨s0, s1, s2⟩ := hSw; go_simp; try with_reducible rfl)
 simp only [za, zb, zc, zd]
 refine rd 7 ⟨some 31, _, _, _, _, some (2, true)⟩ rfl (fun K hK => ?_)
 go_simp
 refine (CC.out _ HA.out.drew HA2.out.drew).mono ?_
 rintro e w2 ⟨rfl, hb2⟩
 have HB2 : Hid (Below (w.heap.size + 1 + 1 + 1) (((w.alloc (box true ba)).alloc (box false bb)).alloc nobox) w2) := HB.out.drew.trans (hb2.mono HZ.out)
 have HAb : Hid (Row w2 ba va) := HA.out.drew.below hb2 HA.out.2.1
 have HAb2 : Hid (Row w2 bb vb) := HA2.out.drew.below hb2 HA2.out.2.1
 have HZ2 : Hid (w.heap.size + 1 + 1 + 1 ≤ w2.heap.size) := Nat.le_trans HZ.out hb2.size
 obtain ⟨d1, d2, d3, d4, d5, d6, g5, g6⟩ := boxes HB2.out
 clear hb2
 refine hK.out _ _ ⟨d1, d2, d4⟩ (fun hHeld => ?_)
 clear hK K
 refine tks 8 ⟨some 32, _, _, _, _, some (2, true)⟩ rfl ?_
 simp only [za, zb, zc, zd]
 refine tks 9 ⟨some 33, _, _, _, _, none⟩ rfl ?_
 simp only [za, zb, zc, zd]
 refine rd 14 ⟨some 38, _, _, _, _, none⟩ rfl (fun K hK => ?_)
 go_simp
 refine (rless_any ba bb va vb w2 HAb.out HAb2.out hle).mono ?_
 rintro e w3 ⟨rfl, hP⟩
 clear d1 d2 d3 d4 d5 d6 g5 g6
 obtain ⟨d1, d2, d3, d4, d5, d6, g5, g6⟩ := boxes (HB2.out.trans (hP.below.mono HZ2.out))
 have HP : Hid _ := hP
 clear hP
 refine hK.out _ _ ⟨d1, d2, d4⟩ (fun hHeld => ?_)
 clear hK K
 refine tks 15 ⟨some 39, _, _, _, _, none⟩ rfl ?_
 simp only [za, zb, zc, zd]
 refine rd 16 ⟨none, _, _, _, _, none⟩ rfl (fun K hK => ?_)
 go_simp
 refine hK.out _ _ ⟨(wkeep2 (by omega) _ _ _).trans d1, (wkeep2 (by omega) _ _ _).trans d2, (wkeep2 (by omega) _ _ _).trans d4⟩ (fun hHeld => ?_)
 clear hK K
 refine wpAnyH_done (by kernel_rfl) ?_ _
 go_wp2
 refine bodyPost_ret (v := .agg #[.bool (decide (0 < cv)), .slice (some ⟨w2.heap.size, 0, none⟩) 6 6]) (by simp [results, Tryz.results45, go_sem, d5, d6]) rfl ⟨_, rfl, ?_⟩
 have hP := HP.out
 have hz := HZ2.out
 refine ⟨((((three _ _ _).trans (HB2.out.mono (by omega))).trans (hP.below.mono (Nat.le_trans (by omega) hz))).setCell (Nat.le_trans (Nat.le_add_right _ 2) (Nat.le_refl _)) _).setCell (Nat.le_trans (Nat.le_add_right _ 2) (Nat.le_refl _)) _, by omega, ?_⟩
 exact ((hP.row (Nat.lt_of_le_of_lt (Nat.sub_le _ _) ha.1)).setCell (show w.heap.size + 1 + 1 ≠ w2.heap.size from by omega) _).setCell (show w.heap.size + 1 + 1 ≠ w2.heap.size from by omega) _
theorem minus_false (ba va : Nat) (z : Bool) (w : World) (ha : Row w ba va)
  (ZC : Hid (∀ w : World, Row w ba va → Calls Tryz.prog 73 #[.slice (some ⟨ba, 0, none⟩) 6 6] w fun e w' => e = zr (.bool z) ∧ Below w.heap.size w w')) :
  Calls Tryz.prog 47 #[.agg #[.bool false, .slice (some ⟨ba, 0, none⟩) 6 6]] w fun e w' => e = zr (.agg #[.bool (!z), .slice (some ⟨ba, 0, none⟩) 6 6]) ∧ Below w.heap.size w w' := by
 have A0 : Row ((w.alloc (box false ba)).alloc nobox) ba va := (ha.alloc _).alloc _
 have F2 : ((w.alloc (box false ba)).alloc nobox).frozen? ⟨w.heap.size + 1, 0, none⟩ = false ∧ ((w.alloc (box false ba)).alloc nobox).frozen? ⟨w.heap.size + 1, 1, none⟩ = false := ⟨by rw [World.frozen?_alloc_at _ _ _ _ (by simp)], by rw [World.frozen?_alloc_at _ _ _ _ (by simp)]⟩
 have F3 : ((w.alloc (box false ba)).alloc nobox).cell? ⟨w.heap.size + 1, 0, none⟩ = some (.bool false) ∧ ((w.alloc (box false ba)).alloc nobox).cell? ⟨w.heap.size + 1, 1, none⟩ = some (.slice none 0 0) := ⟨by rw [World.cell?_alloc_at _ _ _ _ (by simp)]; rfl, by rw [World.cell?_alloc_at _ _ _ _ (by simp)]; rfl⟩
 obtain ⟨W, hW⟩ : ∃ W, W = (w.alloc (box false ba)).alloc nobox := ⟨_, rfl⟩
 have k0 : W.cell? ⟨w.heap.size, 0, none⟩ = some (.bool false) := by rw [hW]; exact box0 _ _ _ _
 have k1 : W.cell? ⟨w.heap.size, 1, none⟩ = some (.slice (some ⟨ba, 0, none⟩) 6 6) := by rw [hW]; exact box0 _ _ _ _
 have hlt : w.heap.size + 1 < W.heap.size := by rw [hW]; simp
 have HB : Hid (Below w.heap.size w W) := by show Below _ _ _; rw [hW]; exact two2 _ _
 rw [← hW] at A0 F2 F3
 obtain ⟨f0, f1⟩ := F2
 obtain ⟨g0, g1⟩ := F3
 go_enter Tryz.func47, Tryz.ntmps47
 go_wp2_with fail
 refine wat_world hW.symm ?_
 clear hW
 refine wp_region_held_drew (S := (fun w' => w'.cell? ⟨w.heap.size, 0, none⟩ = some (.bool false) ∧ w'.cell? ⟨w.heap.size, 1, none⟩ = some (.slice (some ⟨ba, 0, none⟩) 6 6))) (by kernel_rfl) ⟨k0, k1⟩ (fun hHeld => ?_)
 refine tks 0 ⟨some 3, _, _, _, _, none⟩ rfl ?_
 simp only [za, zb, zc, zd]
 refine tk (v := ?_) 1 ⟨some 4, _, _, _, _, none⟩ rfl ?_ ?_
 case refine_2 => (intro w9 hSw; obtain ⟨s0, s1⟩ := hSw; go_simp; try with_reducible rfl)
 simp only [za, zb, zc, zd]
 refine tks 2 ⟨some 5, _, _, _, _, none⟩ rfl ?_
 simp only [za, zb, zc, zd]
 refine tks 3 ⟨some 6, _, _, _, _, none⟩ rfl ?_
 simp only [za, zb, zc, zd]
 refine tks 4 ⟨some 7, _, _, _, _, some (3, true)⟩ rfl ?_
 simp only [za, zb, zc, zd]
 refine tk (v := ?_) 5 ⟨some 8, _, _, _, _, some (3, true)⟩ rfl ?_ ?_
 case refine_2 => (intro w9 hSw; obtain ⟨s0, s1⟩ := hSw; go_simp; try with_reducible rfl)
 simp only [za, zb, zc, zd]
 refine tks 9 ⟨some 12, _, _, _, _, none⟩ rfl ?_
 simp only [za, zb, zc, zd]
 refine tk (v := ?_) 10 ⟨some 13, _, _, _, _, none⟩ rfl ?_ ?_
 case refine_2 => (intro w9 hSw; obtain ⟨s0, s1⟩ := hSw; go_simp; try with_reducible rfl)
 simp only [za, zb, zc, zd]
 refine rd 6 ⟨some 9, _, _, _, _, some (3, true)⟩ rfl (fun K hK => ?_)
 go_simp
 refine (ZC.out _ A0.drew).mono ?_
 rintro e w2 ⟨rfl, hb2⟩
 have b2 : Below W.heap.size W.drew w2 := hb2
 have e0 : w2.cell? ⟨w.heap.size, 0, none⟩ = some (.bool false) := (b2.cell (p := ⟨w.heap.size, 0, none⟩) (show w.heap.size < W.heap.size by omega)).trans k0
 have e1 : w2.cell? ⟨w.heap.size, 1, none⟩ = some (.slice (some ⟨ba, 0, none⟩) 6 6) := (b2.cell (p := ⟨w.heap.size, 1, none⟩) (show w.heap.size < W.heap.size by omega)).trans k1
 have p0 : w2.cell? ⟨w.heap.size + 1, 0, none⟩ = some (.bool false) := (b2.cell (p := ⟨w.heap.size + 1, 0, none⟩) hlt).trans g0
 have p1 : w2.cell? ⟨w.heap.size + 1, 1, none⟩ = some (.slice none 0 0) := (b2.cell (p := ⟨w.heap.size + 1, 1, none⟩) hlt).trans g1
 have q0 : w2.frozen? ⟨w.heap.size + 1, 0, none⟩ = false := (b2.frozen (p := ⟨w.heap.size + 1, 0, none⟩) hlt).trans f0
 have q1 : w2.frozen? ⟨w.heap.size + 1, 1, none⟩ = false := (b2.frozen (p := ⟨w.heap.size + 1, 1, none⟩) hlt).trans f1
 have HB2 : Hid (Below w.heap.size w w2) := HB.out.drew.trans (b2.mono (by omega))
 clear hb2 b2
 refine hK.out _ _ ⟨e0, e1⟩ (fun hHeld => ?_)
 clear hK K
 refine tks 7 ⟨some 10, _, _, _, _, some (3, true)⟩ rfl ?_
 simp only [za, zb, zc, zd]
 refine tks 8 ⟨some 11, _, _, _, _, none⟩ rfl ?_
 simp only [za, zb, zc, zd]
 refine tks 11 ⟨some 14, _, _, _, _, none⟩ rfl ?_
 simp only [za, zb, zc, zd]
 refine rd 12 ⟨none, _, _, _, _, none⟩ rfl (fun K hK => ?_)
 go_simp
 refine hK.out _ _ ⟨(wkeep2 (by omega) _ _ _).trans e0, (wkeep2 (by omega) _ _ _).trans e1⟩ (fun hHeld => ?_)
 clear hK K
 refine wpAnyH_done (by kernel_rfl) ?_ _
 go_wp2
 exact bodyPost_ret (v := .agg #[.bool (!z), .slice (some ⟨ba, 0, none⟩) 6 6]) (by simp [results, Tryz.results47, go_sem, p0, p1]) rfl ⟨rfl, (HB2.out.setCell (by simp) _).setCell (by simp) _⟩
theorem wbelow_drewN {B : Nat} {a w : World} (h : Below B a w) (n : Nat) : Below B a (w.drewN n) := h.trans ⟨rfl, rfl, rfl, Nat.le_refl _, fun _ _ => rfl⟩
theorem of_row (w : World) (v : Nat) (hv : v < 18446744073709551616) (o : Obj) (a b : Int) (ha : a = ((v % 4294967296 : Nat) : Int)) (hb : b = ((v / 4294967296 : Nat) : Int)) :
  Row ((w.alloc o).alloc (.cells #[.int .u64 a, .int .u64 b, .int .u64 0, .int .u64 0, .int .u64 0, .int .u64 0] 91)) (w.heap.size + 1) v := by
 refine ⟨Nat.lt_of_lt_of_le hv (show 18446744073709551616 ≤ 4294967296 ^ 6 by decide), by simp, fun i hi => ?_⟩
 rw [World.cell?_alloc_at _ _ _ _ (by simp)]
 subst ha hb
 have h0 : v / 18446744073709551616 = 0 := Nat.div_eq_of_lt hv
 have z : ∀ k, 2 ≤ k → v / 4294967296 ^ k = 0 := fun k hk => Nat.div_eq_of_lt (Nat.lt_of_lt_of_le hv (Nat.le_trans (show 18446744073709551616 ≤ 4294967296 ^ 2 by decide) (Nat.pow_le_pow_right (show 0 < 4294967296 by decide) hk)))
 match i, hi with
 | 0, _ => simp [Wd.dg]
 | 1, _ => simp [Wd.dg]; omega
 | 2, _ => simp [Wd.dg, z 2 (by omega)]
 | 3, _ => simp [Wd.dg, z 3 (by omega)]
 | 4, _ => simp [Wd.dg, z 4 (by omega)]
 | 5, _ => simp [Wd.dg, z 5 (by omega)]
theorem of_pos (n : Int) (v : Nat) (h0 : ¬ n < 0) (hv : n = (v : Int)) (h2 : v < 9223372036854775808) (w : World) :
  Calls Tryz.prog 71 #[vi ki n] w fun e w' => ∃ b, e = zr (.agg #[.bool false, .slice (some ⟨b, 0, none⟩) 6 6]) ∧ Below w.heap.size w w' ∧ w.heap.size ≤ b ∧ Row w' b v := by
 have hmk := make_six
 have n1 : 0 ≤ n := by omega
 have n2 : n ≤ 9223372036854775807 := by omega
 have e1 : bits .and .u64 n 4294967295 = n % 4294967296 := by rw [hv, andLow v (by omega)]; omega
 have HV : Hid (n = (v : Int)) := hv
 clear hv
 go_enter Tryz.func71, Tryz.ntmps71
 go_wp2_with fail
 refine bodyPost_ret (v := .agg #[.bool false, .slice (some ⟨w.heap.size + 1, 0, none⟩) 6 6]) (by simp [results, Tryz.results71, go_sem]) rfl ⟨_, rfl, (by repeat' (first | assumption | exact Below.refl _ _ | exact Nat.le_refl _ | refine Below.alloc ?_ ?_ _ | (simp; done) | (simp; omega) | omega)), by omega, ?_⟩
 have hv := HV.out
 exact of_row w v (by omega) _ _ _ (by omega) (by omega)
theorem of_neg (n : Int) (v : Nat) (h0 : n < 0) (hv : -n = (v : Int)) (h2 : v ≤ 9223372036854775808) (w : World) :
  Calls Tryz.prog 71 #[vi ki n] w fun e w' => ∃ b, e = zr (.agg #[.bool true, .slice (some ⟨b, 0, none⟩) 6 6]) ∧ Below w.heap.size w w' ∧ w.heap.size ≤ b ∧ Row w' b v := by
 have hmk := make_six
 obtain ⟨u, hu⟩ : ∃ u : Int, u = (v : Int) := ⟨_, rfl⟩
 have n1 : 0 ≤ u := by omega
 have n2 : u ≤ 9223372036854775808 := by omega
 have n3 : -9223372036854775808 ≤ n := by omega
 have e0 : IntKind.u64.wrap (-(IntKind.u64.wrap n)) = u := by rw [IntKind.wrap_u64, IntKind.wrap_u64]; omega
 have e1 : bits .and .u64 u 4294967295 = u % 4294967296 := by rw [hu, andLow v (by omega)]; omega
 have HV : Hid (u = (v : Int)) := hu
 clear hv hu h2
 go_enter Tryz.func71, Tryz.ntmps71
 go_wp2_with fail
 refine bodyPost_ret (v := .agg #[.bool true, .slice (some ⟨w.heap.size + 1, 0, none⟩) 6 6]) (by simp [results, Tryz.results71, go_sem]) rfl ⟨_, rfl, (by repeat' (first | assumption | exact Below.refl _ _ | exact Nat.le_refl _ | refine Below.alloc ?_ ?_ _ | (simp; done) | (simp; omega) | omega)), by omega, ?_⟩
 have hv := HV.out
 exact of_row w v (by omega) _ _ _ (by omega) (by omega)
theorem rof_any (n : Int) (h1 : -9223372036854775808 ≤ n) (h2 : n ≤ 9223372036854775807) (w : World) :
  Calls Tryz.prog 71 #[vi ki n] w fun e w' => ∃ b, e = zr (.agg #[.bool (decide (n < 0)), .slice (some ⟨b, 0, none⟩) 6 6]) ∧ Below w.heap.size w w' ∧ w.heap.size ≤ b ∧ Row w' b n.natAbs := by
 by_cases h : n < 0
 ·rw [decide_eq_true h]; exact of_neg n n.natAbs h (by omega) (by omega) w
 ·rw [decide_eq_false h]; exact of_pos n n.natAbs h (by omega) (by omega) w
theorem wdg_big {v j : Nat} (hj : 2 ≤ j) (h : ¬ Wd.dg v j = 0) : 18446744073709551616 ≤ v := by
 rcases Nat.lt_or_ge v 18446744073709551616 with hv | hv
 ·exfalso
  apply h
  unfold Wd.dg
  rw [Nat.div_eq_of_lt (Nat.lt_of_lt_of_le hv (Nat.le_trans (show 18446744073709551616 ≤ 4294967296 ^ 2 by decide) (Nat.pow_le_pow_right (show 0 < 4294967296 by decide) hj)))]
 ·exact hv
theorem wdg_down {v k : Nat} (hv : v < 4294967296 ^ (k + 1)) (h : Wd.dg v k = 0) : v < 4294967296 ^ k := by
 unfold Wd.dg at h
 have p := Wd.pw_pos k
 have q : v / 4294967296 ^ k < 4294967296 := (Nat.div_lt_iff_lt_mul p).2 (by rw [Nat.mul_comm, ← Nat.pow_succ]; exact hv)
 rw [Nat.mod_eq_of_lt q] at h
 rcases Nat.lt_or_ge v (4294967296 ^ k) with g | g
 ·exact g
 ·have := Nat.div_pos g p; omega
theorem wdg_small {v : Nat} (hv : v < 4294967296 ^ 6) (h : ∀ k, 2 ≤ k → k < 6 → Wd.dg v k = 0) : v < 18446744073709551616 := by
 have a := wdg_down (k := 5) hv (h 5 (by omega) (by omega))
 have b := wdg_down (k := 4) a (h 4 (by omega) (by omega))
 have c := wdg_down (k := 3) b (h 3 (by omega) (by omega))
 exact wdg_down (k := 2) c (h 2 (by omega) (by omega))
theorem low_two {a b : Nat} (ha : a < 4294967296) (hb : b < 4294967296) : bits .or .u64 ((a : Int) * 4294967296) (b : Int) = ((a * 4294967296 + b : Nat) : Int) := by
 have h := bits_or_u64_nat (a * 4294967296) b (by omega) (by omega)
 have e : a * 4294967296 ||| b = a * 4294967296 + b := by
  have q := Nat.shiftLeft_add_eq_or_of_lt (i := 32) (show b < 2 ^ 32 by simpa using hb) a
  rw [Nat.shiftLeft_eq] at q
  exact q.symm
 rw [e] at h
 rw [show (a : Int) * 4294967296 = ((a * 4294967296 : Nat) : Int) by omega]
 exact h
theorem small_any (n : Bool) (b v : Nat) (w : World) (hb : Row w b v) :
  Calls Tryz.prog 89 #[.agg #[.bool n, .slice (some ⟨b, 0, none⟩) 6 6]] w fun e w' => e = zr (.tuple #[vi ki (smV (sgn n v)), vi ki (smE (sgn n v))]) ∧ Below w.heap.size w w' := by
 have R : Row (w.alloc (box n b)) b v := hb.alloc _
 obtain ⟨W, hW⟩ : ∃ W, W = w.alloc (box n b) := ⟨_, rfl⟩
 have k0 : W.cell? ⟨w.heap.size, 0, none⟩ = some (.bool n) := by rw [hW, World.cell?_alloc_at _ _ _ _ rfl]; rfl
 have k1 : W.cell? ⟨w.heap.size, 1, none⟩ = some (.slice (some ⟨b, 0, none⟩) 6 6) := by rw [hW, World.cell?_alloc_at _ _ _ _ rfl]; rfl
 have HB : Hid (Below w.heap.size w W) := by show Below _ _ _; rw [hW]; exact (Below.refl _ _).alloc (Nat.le_refl _) _
 rw [← hW] at R
 go_enter Tryz.func89, Tryz.ntmps89
 go_wp2_with fail
 refine wat_world hW.symm ?_
 clear hW
 go_loop [4] (fun i => ∃ j : Nat, 2 ≤ j ∧ j ≤ 6 ∧ i = vi ki (j : Int) ∧ ∀ k, 2 ≤ k → k < j → Wd.dg v k = 0) (fun i => 6 - (intOf i).toNat)
 case atStart => exact ⟨2, by omega, by omega, rfl, fun k h1 h2 => by omega⟩
 case round =>
  obtain ⟨j, j1, j2, rfl, hz⟩ := hrel
  by_cases hlt : j < 6
  ·have hlt' : (j : Int) < 6 := by omega
   have j0 : (0 : Int) ≤ (j : Int) := by omega
   have c := R.2.2 j hlt
   by_cases hd : Wd.dg v j = 0
   ·have HN : Hid (∀ k, 2 ≤ k → k < j + 1 → Wd.dg v k = 0) := fun k h1 h2 => by
     by_cases e : k = j
     ·rw [e]; exact hd
     ·exact hz k h1 (by omega)
    rw [hd] at c
    clear hz hd R
    go_wp2_with fail
    go_round
    case rel => exact ⟨j + 1, by omega, by omega, by go_num, HN.out⟩
    case measure => simp [intOf]; omega
   ·have hd' : (((Wd.dg v j : Nat) : Int) != 0) = true := by rw [bne_iff_ne]; omega
    have HO : Hid (smV (sgn n v) = 0 ∧ smE (sgn n v) = 10) := by
     have hv : 18446744073709551616 ≤ v := wdg_big j1 hd
     have o : sgn n v < -9223372036854775808 ∨ 9223372036854775807 < sgn n v := by unfold sgn; cases n <;> simp <;> omega
     exact ⟨smV_out o, smE_out o⟩
    generalize Wd.dg v j = x at *
    clear hz hd R
    go_wp2_with fail
    go_ret2
    exact ⟨ret_two HO.out.1.symm HO.out.2.symm, HB.out⟩
  ·have hv : v < 18446744073709551616 := wdg_small R.1 (fun k h1 h2 => hz k h1 (by omega))
   have hlt' : ¬ (j : Int) < 6 := by omega
   have c0 := R.2.2 0 (by omega)
   have c1 := R.2.2 1 (by omega)
   have d0 := Wd.dg_lt v 0
   have d1 := Wd.dg_lt v 1
   have hor := low_two d1 d0
   have hsum : Wd.dg v 1 * 4294967296 + Wd.dg v 0 = v := by unfold Wd.dg; simp; omega
   rw [hsum] at hor
   obtain ⟨u, hu⟩ : ∃ u : Int, u = (v : Int) := ⟨_, rfl⟩
   rw [← hu] at hor
   obtain ⟨x0, hx0⟩ : ∃ x : Int, x = ((Wd.dg v 0 : Nat) : Int) := ⟨_, rfl⟩
   obtain ⟨x1, hx1⟩ : ∃ x : Int, x = ((Wd.dg v 1 : Nat) : Int) := ⟨_, rfl⟩
   rw [← hx0] at c0 hor
   rw [← hx1] at c1 hor
   have b0 : 0 ≤ x0 ∧ x0 < 4294967296 := by omega
   have b1 : 0 ≤ x1 ∧ x1 < 4294967296 := by omega
   have bu : 0 ≤ u ∧ u < 18446744073709551616 := by omega
   have HU : Hid (u = (v : Int)) := hu
   obtain ⟨b00, b01⟩ := b0
   obtain ⟨b10, b11⟩ := b1
   obtain ⟨bu0, bu1⟩ := bu
   clear hz R hb hx0 hx1 d0 d1 hsum hu hv
   have fin : ∀ x y : Int, smV (sgn n v) = x ∧ smE (sgn n v) = y → Hid (smV (sgn n v) = x ∧ smE (sgn n v) = y) := fun _ _ h => h
   cases n
   ·have es : sgn false v = u := by rw [HU.out]; rfl
    by_cases hu : 9223372036854775808 ≤ u
    ·have HF := fin 0 10 (by rw [es]; exact ⟨smV_out (by omega), smE_out (by omega)⟩)
     clear fin es
     go_wp2_with fail
     go_quiet (fail)
     go_wp2
     go_ret2
     exact ⟨ret_two HF.out.1.symm HF.out.2.symm, wbelow_drewN HB.out nq⟩
    ·have HF := fin u 0 (by rw [es]; exact ⟨smV_in (by omega) (by omega), smE_in (by omega) (by omega)⟩)
     clear fin es
     go_wp2_with fail
     go_quiet (fail)
     go_wp2
     go_ret2
     exact ⟨ret_two HF.out.1.symm HF.out.2.symm, wbelow_drewN HB.out nq⟩
   ·have es : sgn true v = -u := by rw [HU.out]; rfl
    by_cases hu : u ≤ 9223372036854775808
    ·have HF := fin (-u) 0 (by rw [es]; exact ⟨smV_in (by omega) (by omega), smE_in (by omega) (by omega)⟩)
     have e1 : wrap64 (IntKind.u64.wrap (-u)) = -u := by rw [IntKind.wrap_u64]; unfold wrap64; omega
     have e2 : IntKind.i64.wrap (IntKind.u64.wrap (-u)) = -u := by rw [IntKind.wrap_u64, IntKind.wrap_i64]; omega
     clear fin es
     go_wp2_with fail
     go_quiet (fail)
     go_wp2
     go_ret2
     exact ⟨ret_two HF.out.1.symm HF.out.2.symm, wbelow_drewN HB.out nq⟩
    ·have HF := fin 0 10 (by rw [es]; exact ⟨smV_out (by omega), smE_out (by omega)⟩)
     clear fin es
     go_wp2_with fail
     go_quiet (fail)
     go_wp2
     go_ret2
     exact ⟨ret_two HF.out.1.symm HF.out.2.symm, wbelow_drewN HB.out nq⟩
def IsW (w : World) (v : Value) (x : Int) : Prop := ∃ b, v = .agg #[.bool (decide (x < 0)), .slice (some ⟨b, 0, none⟩) 6 6] ∧ Row w b x.natAbs
theorem IsW.below {w w1 : World} {v : Value} {x : Int} (h : IsW w v x) (hb : Below w.heap.size w w1) : IsW w1 v x := by
 obtain ⟨b, hv, hr⟩ := h
 exact ⟨b, hv, hr.below hb hr.2.1⟩
theorem wof (n : Int) (h1 : -9223372036854775808 ≤ n) (h2 : n ≤ 9223372036854775807) (w : World) :
  Calls Tryz.prog 71 #[vi ki n] w fun e w' => ∃ v, e = .returned v ∧ IsW w' v n ∧ Below w.heap.size w w' :=
 (rof_any n h1 h2 w).mono fun e w' ⟨b, he, hb, _, hr⟩ => ⟨_, he, ⟨b, rfl, hr⟩, hb⟩
theorem wplus (v u : Value) (x y : Int) (w : World) (hx : IsW w v x) (hy : IsW w u y) (hs : x.natAbs + y.natAbs < 4294967296 ^ 6) :
  Calls Tryz.prog 45 #[v, u] w fun e w' => ∃ v', e = .returned v' ∧ IsW w' v' (x + y) ∧ Below w.heap.size w w' := by
 obtain ⟨ba, rfl, ra⟩ := hx
 obtain ⟨bb, rfl, rb⟩ := hy
 by_cases sx : x < 0
 ·by_cases sy : y < 0
  ·rw [decide_eq_true sx, decide_eq_true sy]
   refine (plus_same true ba bb _ _ w ra rb hs).mono fun e w' ⟨b, he, hb, _, hr⟩ => ⟨_, he, ⟨b, by rw [decide_eq_true (show x + y < 0 by omega)], ?_⟩, hb⟩
   rw [show (x + y).natAbs = x.natAbs + y.natAbs by omega]; exact hr
  ·rw [decide_eq_true sx, decide_eq_false sy]
   by_cases hl : x.natAbs < y.natAbs
   ·refine (plus_lt true false rfl ba bb _ _ w ra rb hl).mono fun e w' ⟨b, he, hb, _, hr⟩ => ⟨_, he, ⟨b, by rw [decide_eq_false (show ¬ x + y < 0 by omega)], ?_⟩, hb⟩
    rw [show (x + y).natAbs = y.natAbs - x.natAbs by omega]; exact hr
   ·refine (plus_ge_true ba bb _ _ w ra rb (by omega)).mono fun e w' ⟨b, he, hb, _, hr⟩ => ⟨_, he, ⟨b, ?_, ?_⟩, hb⟩
    ·by_cases he2 : x.natAbs = y.natAbs
     ·rw [cmpV_eq he2, decide_eq_false (show ¬ x + y < 0 by omega)]; rfl
     ·rw [cmpV_gt (show y.natAbs < x.natAbs by omega), decide_eq_true (show x + y < 0 by omega)]; rfl
    ·rw [show (x + y).natAbs = x.natAbs - y.natAbs by omega]; exact hr
 ·by_cases sy : y < 0
  ·rw [decide_eq_false sx, decide_eq_true sy]
   by_cases hl : x.natAbs < y.natAbs
   ·refine (plus_lt false true rfl ba bb _ _ w ra rb hl).mono fun e w' ⟨b, he, hb, _, hr⟩ => ⟨_, he, ⟨b, by rw [decide_eq_true (show x + y < 0 by omega)], ?_⟩, hb⟩
    rw [show (x + y).natAbs = y.natAbs - x.natAbs by omega]; exact hr
   ·refine (plus_ge_false ba bb _ _ w ra rb (by omega)).mono fun e w' ⟨b, he, hb, _, hr⟩ => ⟨_, he, ⟨b, by rw [decide_eq_false (show ¬ x + y < 0 by omega)], ?_⟩, hb⟩
    rw [show (x + y).natAbs = x.natAbs - y.natAbs by omega]; exact hr
  ·rw [decide_eq_false sx, decide_eq_false sy]
   refine (plus_same false ba bb _ _ w ra rb hs).mono fun e w' ⟨b, he, hb, _, hr⟩ => ⟨_, he, ⟨b, by rw [decide_eq_false (show ¬ x + y < 0 by omega)], ?_⟩, hb⟩
   rw [show (x + y).natAbs = x.natAbs + y.natAbs by omega]; exact hr
theorem wminus (v : Value) (x : Int) (w : World) (hx : IsW w v x) :
  Calls Tryz.prog 47 #[v] w fun e w' => ∃ v', e = .returned v' ∧ IsW w' v' (-x) ∧ Below w.heap.size w w' := by
 obtain ⟨ba, rfl, ra⟩ := hx
 by_cases sx : x < 0
 ·rw [decide_eq_true sx]
  refine (minus_true ba _ w ra).mono fun e w' ⟨he, hb⟩ => ⟨_, he, ⟨ba, by rw [decide_eq_false (show ¬ -x < 0 by omega)], ?_⟩, hb⟩
  rw [Int.natAbs_neg]; exact ra.below hb ra.2.1
 ·rw [decide_eq_false sx]
  refine (minus_false ba _ _ w ra (fun w h => rzero_any ba _ w h)).mono fun e w' ⟨he, hb⟩ => ⟨_, he, ⟨ba, ?_, ?_⟩, hb⟩
  ·by_cases z : x = 0
   ·subst z; rfl
   ·rw [decide_eq_true (show -x < 0 by omega), decide_eq_false (show ¬ x.natAbs = 0 by omega)]; rfl
  ·rw [Int.natAbs_neg]; exact ra.below hb ra.2.1
theorem wsmall (v : Value) (x : Int) (w : World) (hx : IsW w v x) :
  Calls Tryz.prog 89 #[v] w fun e w' => e = zr (.tuple #[vi ki (smV x), vi ki (smE x)]) ∧ Below w.heap.size w w' := by
 obtain ⟨b, rfl, r⟩ := hx
 have h := small_any (decide (x < 0)) b x.natAbs w r
 have e : sgn (decide (x < 0)) x.natAbs = x := by unfold sgn; by_cases s : x < 0 <;> simp [s] <;> omega
 rw [e] at h
 exact h
def mc (x v k : Nat) : Nat := x * (v % 4294967296 ^ k) / 4294967296 ^ k
theorem mc_zero (x v : Nat) : mc x v 0 = 0 := by simp [mc, Nat.mod_one]
theorem mod_up' (v k : Nat) : v % 4294967296 ^ (k + 1) = v % 4294967296 ^ k + 4294967296 ^ k * Wd.dg v k := by
 unfold Wd.dg; rw [Nat.pow_succ, Nat.mod_mul]
theorem mc_step (x v k : Nat) : mc x v k + x * Wd.dg v k = x * (v % 4294967296 ^ (k + 1)) / 4294967296 ^ k := by
 unfold mc
 rw [mod_up', Nat.mul_add, show x * (4294967296 ^ k * Wd.dg v k) = 4294967296 ^ k * (x * Wd.dg v k) by rw [Nat.mul_left_comm], Nat.add_mul_div_left _ _ (Wd.pw_pos k)]
theorem mc_carry (x v k : Nat) : (mc x v k + x * Wd.dg v k) / 4294967296 = mc x v (k + 1) := by
 rw [mc_step, Nat.div_div_eq_div_mul, ← Nat.pow_succ]; rfl
theorem mc_digit (x v k : Nat) : (mc x v k + x * Wd.dg v k) % 4294967296 = Wd.dg (x * v) k := by
 rw [mc_step]
 unfold Wd.dg
 have e : x * v = x * (v % 4294967296 ^ (k + 1)) + 4294967296 ^ k * (4294967296 * (x * (v / 4294967296 ^ (k + 1)))) := by
  have h := Nat.mod_add_div v (4294967296 ^ (k + 1))
  have h2 : x * v = x * (v % 4294967296 ^ (k + 1)) + x * (4294967296 ^ (k + 1) * (v / 4294967296 ^ (k + 1))) := by rw [← Nat.mul_add, h]
  rw [h2, Nat.pow_succ, Nat.mul_left_comm x, Nat.mul_assoc (4294967296 ^ k)]
 conv => rhs; rw [e, Nat.add_mul_div_left _ _ (Wd.pw_pos k), Nat.add_mul_mod_self_left]
theorem mc_le (x v k : Nat) : mc x v k ≤ x := by
 unfold mc
 have h : v % 4294967296 ^ k ≤ 4294967296 ^ k := Nat.le_of_lt (Nat.mod_lt _ (Wd.pw_pos k))
 calc x * (v % 4294967296 ^ k) / 4294967296 ^ k ≤ x * 4294967296 ^ k / 4294967296 ^ k := Nat.div_le_div_right (Nat.mul_le_mul_left x h)
  _ = x := Nat.mul_div_cancel x (Wd.pw_pos k)
theorem mul_cells (x v k : Nat) (hx : x < 4294967296) : mc x v k + x * Wd.dg v k < 18446744073709551616 ∧ bits .and .u64 ((mc x v k : Int) + ((x * Wd.dg v k : Nat) : Int)) 4294967295 = ((Wd.dg (x * v) k : Nat) : Int) ∧ ((mc x v k : Int) + ((x * Wd.dg v k : Nat) : Int)) / 4294967296 = ((mc x v (k + 1) : Nat) : Int) := by
 have h1 := mc_le x v k
 have h2 := Wd.dg_lt v k
 have h3 : x * Wd.dg v k ≤ 4294967295 * 4294967295 := Nat.mul_le_mul (by omega) (by omega)
 have h4 : mc x v k + x * Wd.dg v k < 18446744073709551616 := by omega
 refine ⟨h4, ?_, ?_⟩
 ·rw [castAdd, andLow _ h4, mc_digit]
 ·rw [castAdd, castDiv, mc_carry]
theorem row_part (x v i j : Nat) (hi : i ≤ 1) (hj : j < 6) (hm : x * v < 4294967296 ^ 3) : (if i ≤ j ∧ j < i + 3 then Wd.dg (x * v) (j - i) else 0) = Wd.dg (x * v * 4294967296 ^ i) j := by
 have big : ∀ t, 3 ≤ t → Wd.dg (x * v) t = 0 := fun t ht => by
  unfold Wd.dg
  rw [Nat.div_eq_of_lt (Nat.lt_of_lt_of_le hm (Nat.pow_le_pow_right (by decide) ht))]
 have up : ∀ t, Wd.dg (x * v * 4294967296) (t + 1) = Wd.dg (x * v) t := fun t => by
  unfold Wd.dg
  rw [Nat.pow_succ, Nat.mul_div_mul_right _ _ (by decide)]
 rcases Nat.lt_or_ge i 1 with h0 | h0
 ·obtain rfl : i = 0 := by omega
  rw [Nat.pow_zero, Nat.mul_one]
  split
  ·rfl
  ·exact (big j (by omega)).symm
 ·obtain rfl : i = 1 := by omega
  rw [Nat.pow_one]
  cases j with
  | zero => simp [Wd.dg, Nat.mul_mod_left]
  | succ t =>
   rw [up t]
   split
   ·rw [Nat.add_sub_cancel]
   ·exact (big t (by omega)).symm
theorem out_step (va vb i : Nat) : (va % 4294967296 ^ i) * vb + Wd.dg va i * vb * 4294967296 ^ i = (va % 4294967296 ^ (i + 1)) * vb := by
 rw [mod_up', Nat.add_mul]
 congr 1
 rw [Nat.mul_right_comm, Nat.mul_comm (Wd.dg va i)]
abbrev tw (w : World) (n m : Bool) (ba bb : Nat) : World := ((w.alloc (box n ba)).alloc (box m bb)).alloc nobox
theorem times_any (n m : Bool) (ba bb va vb : Nat) (w : World) (ha : Row w ba va) (hb : Row w bb vb) (hva : va < 18446744073709551616) (hvb : vb < 18446744073709551616) :
  Calls Tryz.prog 72 #[.agg #[.bool n, .slice (some ⟨ba, 0, none⟩) 6 6], .agg #[.bool m, .slice (some ⟨bb, 0, none⟩) 6 6]] w fun e w' => ∃ b, e = zr (.agg #[.bool ((n != m) && !decide (va * vb = 0)), .slice (some ⟨b, 0, none⟩) 6 6]) ∧ Below w.heap.size w w' ∧ w.heap.size ≤ b ∧ Row w' b (va * vb) := by
 have hmk := make_six
 go_enter Tryz.func72, Tryz.ntmps72
 go_wp2_with fail
 go_loopw [5, 6] (fun o i wr => ∃ (k bo : Nat), k ≤ 2 ∧ i = vi ki k ∧ o = .slice (some ⟨bo, 0, none⟩) 6 6 ∧ w.heap.size + 1 + 1 + 1 ≤ bo ∧ Row wr bo ((va % 4294967296 ^ k) * vb) ∧ Below (w.heap.size + 1 + 1 + 1) (tw w n m ba bb) wr) (fun _ i _ => 2 - (intOf i).toNat)
 case atStart =>
  refine ⟨0, w.heap.size + 1 + 1 + 1, by omega, rfl, rfl, by omega, ?_, ?_⟩
  ·have z := zeros (tw w n m ba bb) 91
   have r := Part.row (v := 0) (z.congr (fun j _ => by simp [Wd.dg])) (by decide)
   rw [Nat.pow_zero, Nat.mod_one, Nat.zero_mul]
   simpa using r
  ·have b : Below (w.heap.size + 1 + 1 + 1) (tw w n m ba bb) (tw w n m ba bb) := Below.refl _ _
   exact b.alloc (by simp) _
 case round =>
  obtain ⟨i, bo, hi, rfl, rfl, hbo, hR, hB⟩ := hrel
  have la := ha.2.1
  have lb := hb.2.1
  have hW0 : (tw w n m ba bb).heap.size = w.heap.size + 1 + 1 + 1 := by simp
  have hz := hB.size
  rw [hW0] at hz
  have HA : Hid (Row wr ba va) := (((ha.alloc _).alloc _).alloc _).below hB (by omega)
  have HA2 : Hid (Row wr bb vb) := (((hb.alloc _).alloc _).alloc _).below hB (by omega)
  have HR : Hid (Row wr bo ((va % 4294967296 ^ i) * vb)) := hR
  have HB : Hid (Below (w.heap.size + 1 + 1 + 1) (tw w n m ba bb) wr) := hB
  obtain ⟨c1, c2, c3, c4, c5, c6, f5, f6⟩ := boxes hB
  clear hR hB hW0
  by_cases hlt : i < 2
  ·have hlt' : (i : Int) < 2 := by omega
   have i0 : (0 : Int) ≤ (i : Int) := by omega
   have HX : Hid (Wd.dg va i < 4294967296) := Wd.dg_lt va i
   have HC : Hid (wr.cell? ⟨ba, i, none⟩ = some (.int .u64 ((Wd.dg va i : Nat) : Int))) := HA.out.2.2 i (by omega)
   obtain ⟨x, hx⟩ : ∃ x, x = Wd.dg va i := ⟨_, rfl⟩
   rw [← hx] at HX HC
   have HX0 : Hid (x = Wd.dg va i) := hx
   clear hx
   go_wp2_with fail
   clear hmk
   obtain ⟨W, hWW⟩ : ∃ W, W = wr := ⟨wr, rfl⟩
   subst hWW
   go_loopw [8, 9] (fun c k wr2 => ∃ t : Nat, t ≤ 3 ∧ k = vi ki t ∧ c = .int .u64 ((mc x vb t : Nat) : Int) ∧ Part W wr2 W.heap.size (fun j => if i ≤ j ∧ j < i + t then Wd.dg (x * vb) (j - i) else 0)) (fun _ k _ => 3 - (intOf k).toNat)
   case atStart => exact ⟨0, by omega, rfl, by rw [mc_zero]; rfl, (zeros W _).congr (fun j _ => by rw [if_neg (by omega)])⟩
   case round =>
    obtain ⟨t, ht, rfl, rfl, hP⟩ := hrel
    by_cases tlt : t < 3
    ·have tlt' : (t : Int) < 3 := by omega
     have t0 : (0 : Int) ≤ (t : Int) := by omega
     have e2 : wr.cell? ⟨w.heap.size, 1, none⟩ = some (.slice (some ⟨ba, 0, none⟩) 6 6) := (hP.below.cell (p := ⟨w.heap.size, 1, none⟩) (show w.heap.size < W.heap.size by omega)).trans c2
     have e4 : wr.cell? ⟨w.heap.size + 1, 1, none⟩ = some (.slice (some ⟨bb, 0, none⟩) 6 6) := (hP.below.cell (p := ⟨w.heap.size + 1, 1, none⟩) (show w.heap.size + 1 < W.heap.size by omega)).trans c4
     have ex : wr.cell? ⟨ba, i, none⟩ = some (.int .u64 (x : Int)) := (hP.below.cell (p := ⟨ba, i, none⟩) HA.out.2.1).trans HC.out
     have ey : wr.cell? ⟨bb, t, none⟩ = some (.int .u64 ((Wd.dg vb t : Nat) : Int)) := (hP.below.cell (p := ⟨bb, t, none⟩) HA2.out.2.1).trans (HA2.out.2.2 t (by omega))
     have cN := hP.cell (i + t) (by omega)
     have fN := hP.free (i + t) (by omega)
     obtain ⟨q0, q1, q2⟩ := mul_cells x vb t HX.out
     have hS := Part.set (x := Wd.dg (x * vb) t) (k := i + t) hP.drew (by omega)
     have HS : Hid (Part W (wr.drew.setCell ⟨W.heap.size, i + t, none⟩ (.int .u64 ((Wd.dg (x * vb) t : Nat) : Int))) W.heap.size (fun j => if i ≤ j ∧ j < i + (t + 1) then Wd.dg (x * vb) (j - i) else 0)) := hS.congr (fun j _ => by
      by_cases g : j = i + t
      ·subst g
       rw [if_pos rfl, if_pos (by omega), Nat.add_sub_cancel_left]
      ·rw [if_neg g]
       by_cases g2 : i ≤ j ∧ j < i + t
       ·rw [if_pos g2, if_pos (by omega)]
       ·rw [if_neg g2, if_neg (by omega)])
     have l0 := mc_le x vb t
     have l2 := Wd.dg_lt vb t
     have hx' := HX.out
     generalize hC' : mc x vb (t + 1) = C' at *
     have HC' : Hid (mc x vb (t + 1) = C') := hC'
     generalize mc x vb t = C at *
     generalize Wd.dg vb t = y at *
     generalize Wd.dg (x * vb) t = z at *
     have hxy : (x : Int) * (y : Int) = ((x * y : Nat) : Int) := by simp
     generalize x * y = p at *
     rw [if_neg (by omega)] at cN
     clear hS hP hC'
     go_wp2
     go_region
     all_goals (try go_wp2)
     exact ⟨⟨t + 1, by omega, by go_num, by rw [HC'.out], HS.out⟩, by simp [intOf]; omega⟩
    ·have ht3 : t = 3 := by omega
     have tge : ¬ (t : Int) < 3 := by omega
     have hm : x * vb < 4294967296 ^ 3 := Nat.lt_of_lt_of_le (Nat.mul_lt_mul'' HX.out hvb) (by decide)
     have hpw : 4294967296 ^ i ≤ 4294967296 ^ 1 := Nat.pow_le_pow_right (by decide) (by omega)
     have hm2 : x * vb * 4294967296 ^ i < 4294967296 ^ 5 := Nat.lt_of_le_of_lt (Nat.mul_le_mul_left _ hpw) (by omega)
     have hm3 : va % 4294967296 ^ (i + 1) * vb < 4294967296 ^ 6 := Nat.lt_of_le_of_lt (Nat.mul_le_mul_right _ (Nat.mod_le _ _)) (Nat.lt_of_lt_of_le (Nat.mul_lt_mul'' hva hvb) (by decide))
     have hR2 : Row wr W.heap.size (x * vb * 4294967296 ^ i) := (hP.congr (g := fun j => Wd.dg (x * vb * 4294967296 ^ i) j) (fun j hj => by rw [ht3]; exact row_part x vb i j (by omega) hj hm)).row (by omega)
     have hR1 := HR.out.below hP.below HR.out.2.1
     have C1 := radd_any bo W.heap.size _ _ wr hR1 hR2
     rw [HX0.out, out_step] at C1
     have HC1 : Hid (Calls Tryz.prog 68 #[.slice (some ⟨bo, 0, none⟩) 6 6, .slice (some ⟨W.heap.size, 0, none⟩) 6 6] wr fun e w' => e = zr (.slice (some ⟨wr.heap.size, 0, none⟩) 6 6) ∧ Part wr w' wr.heap.size (fun j => Wd.dg (va % 4294967296 ^ (i + 1) * vb) j)) := C1
     have HP0 : Hid (Below W.heap.size W wr) := hP.below
     have hs := hP.size
     have HM : Hid (va % 4294967296 ^ (i + 1) * vb < 4294967296 ^ 6) := hm3
     clear C1 hR1 hR2 hm hm2 hm3 hpw hP
     go_wp2_with fail
     refine HC1.out.mono ?_
     rintro e w1 ⟨rfl, hP2⟩
     have HP2 : Hid (Part wr w1 wr.heap.size (fun j => Wd.dg (va % 4294967296 ^ (i + 1) * vb) j)) := hP2
     clear hP2
     go_wp2
     exact ⟨⟨i + 1, wr.heap.size, by omega, by go_num, rfl, by omega, HP2.out.row HM.out, (HB.out.trans (HP0.out.mono hz)).trans (HP2.out.below.mono (by omega))⟩, by simp [intOf]; omega⟩
  ·have hge : ¬ (i : Int) < 2 := by omega
   have hv : va % 4294967296 ^ i * vb = va * vb := by rw [show i = 2 by omega, Nat.mod_eq_of_lt (Nat.lt_of_lt_of_le hva (by decide))]
   have HR' : Hid (Row wr bo (va * vb)) := hv ▸ HR.out
   have HZ : Hid (Calls Tryz.prog 73 #[.slice (some ⟨bo, 0, none⟩) 6 6] wr fun e w' => e = zr (.bool (decide (va * vb = 0))) ∧ Below wr.heap.size wr w') := rzero_any bo _ wr HR'.out
   have hbo' : w.heap.size ≤ bo := by omega
   clear hv hmk HA HA2
   obtain ⟨Z, hZ⟩ : ∃ Z, Z = decide (va * vb = 0) := ⟨_, rfl⟩
   rw [← hZ] at HZ
   have HZ0 : Hid (Z = decide (va * vb = 0)) := hZ
   clear hZ
   by_cases hnm : n = m
   ·subst hnm
    go_wp2
    refine bodyPost_ret (v := .agg #[.bool false, .slice (some ⟨bo, 0, none⟩) 6 6]) (by simp [results, Tryz.results72, go_sem, c5, c6]) rfl ⟨bo, ?_, ?_, hbo', ?_⟩
    ·cases n <;> rfl
    ·exact (((three _ _ _).trans (HB.out.mono (by omega))).setCell (Nat.le_trans (Nat.le_add_right _ 2) (Nat.le_refl _)) _).setCell (Nat.le_trans (Nat.le_add_right _ 2) (Nat.le_refl _)) _
    ·exact (HR'.out.setCell (a := ⟨w.heap.size + 1 + 1, 0, none⟩) (show w.heap.size + 1 + 1 ≠ bo by omega) _).setCell (a := ⟨w.heap.size + 1 + 1, 1, none⟩) (show w.heap.size + 1 + 1 ≠ bo by omega) _
   ·have hnm' : (n == m) = false := by cases n <;> cases m <;> simp_all
    have hnn : (n != m) = true := by cases n <;> cases m <;> simp_all
    go_wp2_with fail
    refine HZ.out.mono ?_
    rintro e w1 ⟨rfl, hB1⟩
    have HB1 : Hid (Below (w.heap.size + 1 + 1 + 1) (tw w n m ba bb) w1) := HB.out.trans (hB1.mono hz)
    have HR1 : Hid (Row w1 bo (va * vb)) := HR'.out.below hB1 HR'.out.2.1
    clear c1 c2 c3 c4 c5 c6 f5 f6 hB1
    obtain ⟨c1, c2, c3, c4, c5, c6, f5, f6⟩ := boxes HB1.out
    go_wp2
    refine bodyPost_ret (v := .agg #[.bool (!Z), .slice (some ⟨bo, 0, none⟩) 6 6]) (by simp [results, Tryz.results72, go_sem, c5, c6]) rfl ⟨bo, ?_, ?_, hbo', ?_⟩
    ·rw [hnn, ← HZ0.out]; rfl
    ·exact (((three _ _ _).trans (HB1.out.mono (by omega))).setCell (Nat.le_trans (Nat.le_add_right _ 2) (Nat.le_refl _)) _).setCell (Nat.le_trans (Nat.le_add_right _ 2) (Nat.le_refl _)) _
    ·exact (HR1.out.setCell (a := ⟨w.heap.size + 1 + 1, 0, none⟩) (show w.heap.size + 1 + 1 ≠ bo by omega) _).setCell (a := ⟨w.heap.size + 1 + 1, 1, none⟩) (show w.heap.size + 1 + 1 ≠ bo by omega) _
theorem sign_mul (x y : Int) : ((decide (x < 0) != decide (y < 0)) && !decide (x.natAbs * y.natAbs = 0)) = decide (x * y < 0) := by
 rw [← Int.natAbs_mul]
 have hz : (x * y).natAbs = 0 ↔ x = 0 ∨ y = 0 := by rw [Int.natAbs_eq_zero, Int.mul_eq_zero]
 rcases Int.lt_trichotomy x 0 with hx | hx | hx
 ·rcases Int.lt_trichotomy y 0 with hy | hy | hy
  ·have h := Int.mul_pos_of_neg_of_neg hx hy
   rw [decide_eq_true hx, decide_eq_true hy, decide_eq_false (show ¬ x * y < 0 by omega)]; rfl
  ·subst hy; simp
  ·have h := Int.mul_neg_of_neg_of_pos hx hy
   rw [decide_eq_true hx, decide_eq_false (show ¬ y < 0 by omega), decide_eq_true h, decide_eq_false (show ¬ (x * y).natAbs = 0 by omega)]; rfl
 ·subst hx; simp
 ·rcases Int.lt_trichotomy y 0 with hy | hy | hy
  ·have h := Int.mul_neg_of_pos_of_neg hx hy
   rw [decide_eq_true hy, decide_eq_false (show ¬ x < 0 by omega), decide_eq_true h, decide_eq_false (show ¬ (x * y).natAbs = 0 by omega)]; rfl
  ·subst hy; simp
  ·have h := Int.mul_pos hx hy
   rw [decide_eq_false (show ¬ x < 0 by omega), decide_eq_false (show ¬ y < 0 by omega), decide_eq_false (show ¬ x * y < 0 by omega)]; rfl
theorem wtimes (v u : Value) (x y : Int) (w : World) (hx : IsW w v x) (hy : IsW w u y) (h1 : x.natAbs < 18446744073709551616) (h2 : y.natAbs < 18446744073709551616) :
  Calls Tryz.prog 72 #[v, u] w fun e w' => ∃ v', e = .returned v' ∧ IsW w' v' (x * y) ∧ Below w.heap.size w w' := by
 obtain ⟨ba, rfl, ra⟩ := hx
 obtain ⟨bb, rfl, rb⟩ := hy
 refine (times_any _ _ ba bb _ _ w ra rb h1 h2).mono fun e w' ⟨b, he, hb, _, hr⟩ => ⟨_, he, ⟨b, by rw [sign_mul], ?_⟩, hb⟩
 rw [Int.natAbs_mul]; exact hr
theorem big_pow (k : Nat) : (4294967296 : Nat) ^ k = 2 ^ (32 * k) := by rw [Nat.pow_mul]
theorem dg_shift (v k : Nat) : Wd.dg v k = (v >>> (32 * k)) % 2 ^ 32 := by
 unfold Wd.dg
 rw [big_pow, Nat.shiftRight_eq_div_pow]
theorem dg_or (a b k : Nat) : Wd.dg (a ||| b) k = Wd.dg a k ||| Wd.dg b k := by
 rw [dg_shift, dg_shift, dg_shift, Nat.shiftRight_or_distrib, Nat.or_mod_two_pow]
theorem dg_bit (v i : Nat) : Wd.dg v (i / 32) / 2 ^ (i % 32) % 2 = v / 2 ^ i % 2 := by
 rw [dg_shift, Nat.shiftRight_eq_div_pow]
 have h32 : (2 : Nat) ^ 32 = 2 ^ (i % 32) * 2 ^ (32 - i % 32) := by rw [← Nat.pow_add]; congr 1; omega
 rw [h32, Nat.mod_mul_right_div_self, Nat.div_div_eq_div_mul, ← Nat.pow_add, show 32 * (i / 32) + i % 32 = i by omega]
 exact Nat.mod_mod_of_dvd _ (Nat.dvd_of_pow_dvd (show 1 ≤ 32 - i % 32 by omega) (Nat.dvd_refl _))
theorem top_bit (v i : Nat) : v / 2 ^ i = 2 * (v / 2 ^ (i + 1)) + v / 2 ^ i % 2 := by
 rw [Nat.pow_succ, ← Nat.div_div_eq_div_mul]; omega
theorem long_lt (T v b : Nat) (hv : 0 < v) (hb : b ≤ 1) (h : 2 * (T % v) + b < v) : (2 * T + b) % v = 2 * (T % v) + b ∧ (2 * T + b) / v = 2 * (T / v) := by
 have e : 2 * T + b = (2 * (T % v) + b) + v * (2 * (T / v)) := by
  have := Nat.mod_add_div T v
  rw [Nat.mul_left_comm]; omega
 rw [e, Nat.add_mul_mod_self_left, Nat.add_mul_div_left _ _ hv, Nat.mod_eq_of_lt h, Nat.div_eq_of_lt h]
 constructor
 ·rfl
 ·omega
theorem long_ge (T v b : Nat) (hv : 0 < v) (hb : b ≤ 1) (h : v ≤ 2 * (T % v) + b) : (2 * T + b) % v = 2 * (T % v) + b - v ∧ (2 * T + b) / v = 2 * (T / v) + 1 := by
 have hl := Nat.mod_lt T hv
 have e : 2 * T + b = (2 * (T % v) + b - v) + v * (2 * (T / v) + 1) := by
  have := Nat.mod_add_div T v
  rw [Nat.mul_add, Nat.mul_left_comm]; omega
 rw [e, Nat.add_mul_mod_self_left, Nat.add_mul_div_left _ _ hv, Nat.mod_eq_of_lt (by omega), Nat.div_eq_of_lt (by omega)]
 constructor
 ·rfl
 ·omega
theorem add_bit (r b : Nat) (hb : b ≤ 1) : 2 * r + b = 2 * r ||| b := by
 have h := Nat.shiftLeft_add_eq_or_of_lt (show b < 2 ^ 1 by omega) r
 rw [Nat.shiftLeft_eq, Nat.pow_one, Nat.mul_comm] at h
 exact h
theorem dg_low (b k : Nat) (hb : b ≤ 1) : Wd.dg b k = if k = 0 then b else 0 := by
 unfold Wd.dg
 by_cases h : k = 0
 ·subst h; rw [if_pos rfl, Nat.pow_zero, Nat.div_one]; omega
 ·rw [if_neg h, Nat.div_eq_of_lt (Nat.lt_of_lt_of_le (show b < 4294967296 ^ 1 by omega) (Nat.pow_le_pow_right (by decide) (by omega)))]
theorem rest_dg (r b k : Nat) (hb : b ≤ 1) : Wd.dg (2 * r + b) k = if k = 0 then Wd.dg (2 * r) k ||| b else Wd.dg (2 * r) k := by
 rw [add_bit r b hb, dg_or, dg_low b k hb]
 split
 ·rfl
 ·exact Nat.or_zero _
theorem dg_pow (i k : Nat) : Wd.dg (2 ^ i) k = if k = i / 32 then 2 ^ (i % 32) else 0 := by
 unfold Wd.dg
 rw [big_pow]
 by_cases h : k = i / 32
 ·rw [if_pos h, Nat.pow_div (by omega) (by decide), show i - 32 * k = i % 32 by omega]
  exact Nat.mod_eq_of_lt (Nat.lt_of_lt_of_le (Nat.pow_lt_pow_right (by decide) (show i % 32 < 32 by omega)) (by decide))
 ·rw [if_neg h]
  by_cases g : i < 32 * k
  ·rw [Nat.div_eq_of_lt (Nat.pow_lt_pow_right (by decide) g)]
  ·rw [Nat.pow_div (by omega) (by decide)]
   rw [show i - 32 * k = 32 + (i - 32 * k - 32) by omega, Nat.pow_add]
   exact Nat.mul_mod_right _ _
theorem quo_dg (Q i k : Nat) : Wd.dg ((2 * Q + 1) * 2 ^ i) k = if k = i / 32 then Wd.dg (Q * 2 ^ (i + 1)) k ||| 2 ^ (i % 32) else Wd.dg (Q * 2 ^ (i + 1)) k := by
 have h := Nat.shiftLeft_add_eq_or_of_lt (show 2 ^ i < 2 ^ (i + 1) from Nat.pow_lt_pow_right (by decide) (by omega)) Q
 rw [Nat.shiftLeft_eq] at h
 have e : (2 * Q + 1) * 2 ^ i = Q * 2 ^ (i + 1) + 2 ^ i := by
  rw [Nat.add_mul, Nat.one_mul, Nat.pow_succ, Nat.mul_comm 2 Q, Nat.mul_assoc, Nat.mul_comm 2]
 rw [e, h, dg_or, dg_pow]
 split
 ·rfl
 ·exact Nat.or_zero _
theorem quo_same (Q i : Nat) : 2 * Q * 2 ^ i = Q * 2 ^ (i + 1) := by
 rw [Nat.pow_succ, Nat.mul_comm 2 Q, Nat.mul_assoc, Nat.mul_comm 2]
theorem Part.keep {w wr wr' : World} {N : Nat} {f : Nat → Nat} (h : Part w wr N f) (b : Below (N + 1) wr wr') : Part w wr' N f :=
 ⟨h.below.trans (b.mono (by omega)), Nat.lt_of_lt_of_le h.size b.size, fun j hj => (b.cell (p := ⟨N, j, none⟩) (Nat.lt_succ_self _)).trans (h.cell j hj), fun j hj => (b.frozen (p := ⟨N, j, none⟩) (Nat.lt_succ_self _)).trans (h.free j hj)⟩
theorem divide_any (ba bb va vb : Nat) (w : World) (ha : Row w ba va) (hb : Row w bb vb) (hpos : 0 < vb) (hvb : vb < 18446744073709551616) :
  Calls Tryz.prog 110 #[.slice (some ⟨ba, 0, none⟩) 6 6, .slice (some ⟨bb, 0, none⟩) 6 6] w fun e w' => ∃ bq br, e = zr (.tuple #[.slice (some ⟨bq, 0, none⟩) 6 6, .slice (some ⟨br, 0, none⟩) 6 6]) ∧ Below w.heap.size w w' ∧ w.heap.size ≤ bq ∧ w.heap.size ≤ br ∧ Row w' bq (va / vb) ∧ Row w' br (va % vb) := by
 have hmk := make_six
 go_enter Tryz.func110, Tryz.ntmps110
 go_wp2_with fail
 clear hmk
 go_loopw [7, 8] (fun r i wr => ∃ (n br : Nat), n ≤ 192 ∧ i = vi ki ((n : Int) - 1) ∧ r = .slice (some ⟨br, 0, none⟩) 6 6 ∧ w.heap.size < br ∧ Row wr br (va / 2 ^ n % vb) ∧ Part w wr w.heap.size (fun j => Wd.dg (va / 2 ^ n / vb * 2 ^ n) j)) (fun _ i _ => (intOf i + 1).toNat)
 case atStart =>
  have hz : va / 2 ^ 192 = 0 := Nat.div_eq_of_lt (Nat.lt_of_lt_of_le ha.1 (by decide))
  refine ⟨192, w.heap.size + 1, by omega, rfl, rfl, by omega, ?_, ?_⟩
  ·rw [hz, Nat.zero_mod]
   have z := zeros (w.alloc (.cells #[.int .u64 0, .int .u64 0, .int .u64 0, .int .u64 0, .int .u64 0, .int .u64 0] 91)) 91
   have r := Part.row (v := 0) (z.congr (fun j _ => by simp [Wd.dg])) (by decide)
   simpa using r
  ·rw [hz, Nat.zero_div, Nat.zero_mul]
   have z := zeros w 91
   have b := (Below.refl (w.heap.size + 1) (w.alloc (.cells #[.int .u64 0, .int .u64 0, .int .u64 0, .int .u64 0, .int .u64 0, .int .u64 0] 91))).alloc (by simp) (.cells #[.int .u64 0, .int .u64 0, .int .u64 0, .int .u64 0, .int .u64 0, .int .u64 0] 91)
   exact (z.keep b).congr (fun j _ => by simp [Wd.dg])
 case round =>
  obtain ⟨n, br, hn, hi, rfl, hbr, hR, hP⟩ := hrel
  rcases n with _ | k
  ·rw [show (((0 : Nat) : Int) - 1) = -1 from rfl] at hi
   subst hi
   rw [Nat.pow_zero, Nat.div_one] at hR
   simp only [Nat.pow_zero, Nat.div_one, Nat.mul_one] at hP
   have HP : Hid (Part w wr w.heap.size (fun j => Wd.dg (va / vb) j)) := hP
   have HR : Hid (Row wr br (va % vb)) := hR
   clear hP hR
   go_wp2
   go_ret2
   exact ⟨_, _, rfl, HP.out.below, by omega, by omega, HP.out.row (Nat.lt_of_le_of_lt (Nat.div_le_self _ _) ha.1), HR.out⟩
  ·rw [show (((k + 1 : Nat) : Int) - 1) = (k : Int) by omega] at hi
   subst hi
   have k0 : (0 : Int) ≤ (k : Int) := by omega
   have kk : (k : Int) < 192 := by omega
   obtain ⟨W, hWW⟩ : ∃ W, W = wr := ⟨wr, rfl⟩
   subst hWW
   obtain ⟨T, hT⟩ : ∃ T, T = va / 2 ^ (k + 1) := ⟨_, rfl⟩
   rw [← hT] at hR hP
   have HT : Hid (T = va / 2 ^ (k + 1)) := hT
   have HP : Hid (Part w W w.heap.size (fun j => Wd.dg (T / vb * 2 ^ (k + 1)) j)) := hP
   have HR : Hid (Row W br (T % vb)) := hR
   have HW : Hid (w.heap.size + 1 < W.heap.size) := by have := hR.2.1; show _ < _; omega
   have C1 := radd_any br br _ _ W hR hR
   rw [← Nat.two_mul] at C1
   have HC1 : Hid (Calls Tryz.prog 68 #[.slice (some ⟨br, 0, none⟩) 6 6, .slice (some ⟨br, 0, none⟩) 6 6] W fun e w' => e = zr (.slice (some ⟨W.heap.size, 0, none⟩) 6 6) ∧ Part W w' W.heap.size (fun j => Wd.dg (2 * (T % vb)) j)) := C1
   clear C1 hT hR hP
   go_wp2_with fail
   refine HC1.out.mono ?_
   rintro e w1 ⟨rfl, hP1⟩
   obtain ⟨d, hd⟩ : ∃ d, d = k / 32 := ⟨_, rfl⟩
   obtain ⟨m, hm⟩ : ∃ m, m = k % 32 := ⟨_, rfl⟩
   have eA : w1.cell? ⟨ba, d, none⟩ = some (.int .u64 ((Wd.dg va d : Nat) : Int)) := (hP1.below.cell (p := ⟨ba, d, none⟩) (Nat.lt_trans ha.2.1 (by have := HW.out; omega))).trans ((HP.out.below.cell (p := ⟨ba, d, none⟩) ha.2.1).trans (ha.2.2 d (by omega)))
   have cR := hP1.cell 0 (by omega)
   have fR := hP1.free 0 (by omega)
   have HP1 : Hid (Part W w1 W.heap.size (fun j => Wd.dg (2 * (T % vb)) j)) := hP1
   clear hP1
   have HD : Hid (d = k / 32) := hd
   have HM : Hid (m = k % 32) := hm
   have q1 : (k : Int) / 32 = (d : Int) := by omega
   have q2 : (k : Int) % 32 = (m : Int) := by omega
   have q3 : Int.tdiv (k : Int) 32 = (d : Int) := by rw [Int.tdiv_eq_ediv_of_nonneg k0]; exact q1
   have q4 : Int.tmod (k : Int) 32 = (m : Int) := by rw [Int.tmod_eq_emod_of_nonneg k0]; exact q2
   have d6 : (d : Int) < 6 := by omega
   have d0 : (0 : Int) ≤ (d : Int) := by omega
   have m32 : (m : Int) < 32 := by omega
   have m0 : (0 : Int) ≤ (m : Int) := by omega
   clear hd hm
   generalize hgx : Wd.dg va d = x at *
   generalize hgy : Wd.dg (2 * (T % vb)) 0 = y at *
   have HX : Hid (Wd.dg va d = x) := hgx
   have HY : Hid (Wd.dg (2 * (T % vb)) 0 = y) := hgy
   have lx : x < 4294967296 := by rw [← hgx]; exact Wd.dg_lt _ _
   have ly : y < 4294967296 := by rw [← hgy]; exact Wd.dg_lt _ _
   clear hgx hgy
   obtain ⟨t, ht⟩ : ∃ t, t = va / 2 ^ k % 2 := ⟨_, rfl⟩
   have t1 : t ≤ 1 := by omega
   have HTk : Hid (va / 2 ^ k = 2 * T + t) := by show _ = _; rw [HT.out, ht]; exact top_bit va k
   have hxt : x / 2 ^ m % 2 = t := by rw [← HX.out, HD.out, HM.out, dg_bit]; exact ht.symm
   obtain ⟨z, hz⟩ : ∃ z, z = Wd.dg (2 * (T % vb) + t) 0 := ⟨_, rfl⟩
   have hv : bits .or .u64 (y : Int) (bits .and .u64 ((x : Int) / 2 ^ m) 1) = (z : Int) := by
    rw [castDivPow, show bits .and .u64 ((x / 2 ^ m : Nat) : Int) 1 = ((x / 2 ^ m &&& 1 : Nat) : Int) from bits_and_u64_nat _ 1 (Nat.lt_of_le_of_lt (Nat.div_le_self _ _) (by omega)) (by omega), Nat.and_one_is_mod, hxt, bits_or_u64_nat y t (by omega) (by omega), hz, rest_dg _ t 0 t1, if_pos rfl, HY.out]
   have HS : Hid (Part W (w1.setCell ⟨W.heap.size, 0, none⟩ (.int .u64 (z : Int))).drew W.heap.size (fun j => Wd.dg (2 * (T % vb) + t) j)) := ((HP1.out.set (k := 0) (x := z) (by omega)).congr (fun j _ => by
    rw [rest_dg _ t j t1]
    by_cases g : j = 0
    ·subst g; rw [if_pos rfl, if_pos rfl, hz, rest_dg _ t 0 t1, if_pos rfl]
    ·rw [if_neg g, if_neg g])).drew
   clear ht hxt hz
   go_wp2
   go_region
   all_goals (try go_wp2_with fail)
   obtain ⟨w2, hw2⟩ : ∃ w2, w2 = (w1.setCell ⟨W.heap.size, 0, none⟩ (.int .u64 (z : Int))).drew := ⟨_, rfl⟩
   rw [← hw2] at HS ⊢
   clear hw2 eA cR fR hv HP1
   have hlt := Nat.mod_lt T hpos
   have rows : Row w2 W.heap.size (2 * (T % vb) + t) := HS.out.row (Nat.lt_trans (show _ < 4294967296 ^ 3 by omega) (by decide))
   have rowb : Row w2 bb vb := (hb.below HP.out.below hb.2.1).below HS.out.below (Nat.lt_trans hb.2.1 (by have := HW.out; omega))
   have HP2 : Hid (Part w w2 w.heap.size (fun j => Wd.dg (T / vb * 2 ^ (k + 1)) j)) := HP.out.keep (HS.out.below.mono (by have := HW.out; omega))
   refine (rcmp_any _ _ _ _ w2 rows rowb).mono ?_
   rintro e w3 ⟨rfl, hB3⟩
   have HP3 : Hid (Part w w3 w.heap.size (fun j => Wd.dg (T / vb * 2 ^ (k + 1)) j)) := HP2.out.keep (hB3.mono (by have := HW.out; have := HS.out.size; omega))
   have HR3 : Hid (Row w3 W.heap.size (2 * (T % vb) + t)) := rows.below hB3 HS.out.size
   have HB3 : Hid (Row w3 bb vb) := rowb.below hB3 (Nat.lt_trans hb.2.1 (by have := HW.out; have := HS.out.size; omega))
   clear rows rowb hB3
   by_cases hge : vb ≤ 2 * (T % vb) + t
   ·obtain ⟨e1, e2⟩ := long_ge T vb t hpos t1 hge
    obtain ⟨c, hc, c0⟩ : ∃ c, c = wcmpV (2 * (T % vb) + t) vb ∧ 0 ≤ c := ⟨_, rfl, by unfold wcmpV; split; omega; split <;> omega⟩
    rw [← hc]
    have HC4 : Hid (Calls Tryz.prog 70 #[.slice (some ⟨W.heap.size, 0, none⟩) 6 6, .slice (some ⟨bb, 0, none⟩) 6 6] w3 fun e w' => e = zr (.slice (some ⟨w3.heap.size, 0, none⟩) 6 6) ∧ Part w3 w' w3.heap.size (fun j => Wd.dg (2 * (T % vb) + t - vb) j)) := rless_any _ _ _ _ w3 HR3.out HB3.out hge
    clear hc
    go_wp2_with fail
    refine HC4.out.mono ?_
    rintro e w4 ⟨rfl, hP4⟩
    have HP4 : Hid (Part w w4 w.heap.size (fun j => Wd.dg (T / vb * 2 ^ (k + 1)) j)) := HP3.out.keep (hP4.below.mono HP3.out.size)
    have cQ := HP4.out.cell d (by omega)
    have fQ := HP4.out.free d (by omega)
    have HR4 : Hid (Row w4 w3.heap.size (2 * (T % vb) + t - vb)) := hP4.row (Nat.lt_trans (show _ < 4294967296 ^ 3 by omega) (by decide))
    have HE : Hid ((2 * T + t) % vb = 2 * (T % vb) + t - vb ∧ (2 * T + t) / vb = 2 * (T / vb) + 1) := ⟨e1, e2⟩
    clear hP4 e1 e2 hge
    generalize hgu : Wd.dg (T / vb * 2 ^ (k + 1)) d = u at *
    have HU : Hid (Wd.dg (T / vb * 2 ^ (k + 1)) d = u) := hgu
    have lu : u < 4294967296 := by rw [← hgu]; exact Wd.dg_lt _ _
    clear hgu
    have lm : 2 ^ m < 4294967296 := Nat.lt_of_lt_of_le (Nat.pow_lt_pow_right (by decide) (show m < 32 by omega)) (by decide)
    have HQ : Hid (bits .or .u64 (u : Int) (IntKind.u64.wrap (2 ^ m)) = ((u ||| 2 ^ m : Nat) : Int)) := by
     show _ = _
     rw [show ((2 : Int) ^ m) = ((2 ^ m : Nat) : Int) by simp, castWrap _ (by omega), bits_or_u64_nat _ _ (by omega) (by omega)]
    go_wp2
    rw [HQ.out]
    refine ⟨⟨k, w3.heap.size, by omega, rfl, rfl, by have := HP3.out.size; omega, ?_, ?_⟩, by simp [intOf] <;> omega⟩
    ·rw [HTk.out, HE.out.1]
     exact HR4.out.setCell (a := ⟨w.heap.size, d, none⟩) (Nat.ne_of_lt HP3.out.size) _
    ·rw [HTk.out, HE.out.2]
     refine (HP4.out.set (k := d) (x := u ||| 2 ^ m) (by omega)).congr (fun j _ => ?_)
     rw [quo_dg, ← HD.out, ← HM.out]
     by_cases g : j = d
     ·subst g; rw [if_pos rfl, if_pos rfl, HU.out]
     ·rw [if_neg g, if_neg g]
   ·obtain ⟨e1, e2⟩ := long_lt T vb t hpos t1 (by omega)
    have HE : Hid ((2 * T + t) % vb = 2 * (T % vb) + t ∧ (2 * T + t) / vb = 2 * (T / vb)) := ⟨e1, e2⟩
    rw [cmpV_lt (by omega)]
    clear e1 e2 hge
    go_wp2
    refine ⟨⟨k, W.heap.size, by omega, by go_num, rfl, by have := HW.out; omega, ?_, ?_⟩, by simp [intOf]⟩
    ·rw [HTk.out, HE.out.1]; exact HR3.out
    ·rw [HTk.out, HE.out.2, quo_same]; exact HP3.out
theorem field_w (s : Bool) (b : Nat) (w : World) : (Instr.field 102 (.agg #[.bool s, .slice (some ⟨b, 0, none⟩) 6 6]) 1).run Tryz.prog w = .ok (.slice (some ⟨b, 0, none⟩) 6 6) w := by kernel_rfl
theorem over_same (n : Bool) (ba bb va vb : Nat) (w : World) (ha : Row w ba va) (hb : Row w bb vb) (hpos : 0 < vb) (hvb : vb < 18446744073709551616) :
  Calls Tryz.prog 90 #[.agg #[.bool n, .slice (some ⟨ba, 0, none⟩) 6 6], .agg #[.bool n, .slice (some ⟨bb, 0, none⟩) 6 6]] w fun e w' => ∃ b, e = zr (.agg #[.bool false, .slice (some ⟨b, 0, none⟩) 6 6]) ∧ Below w.heap.size w w' ∧ Row w' b (va / vb) := by
 have HA : Hid (Row (tw w n n ba bb) ba va) := (((ha.alloc _).alloc _).alloc _)
 have HB : Hid (Row (tw w n n ba bb) bb vb) := (((hb.alloc _).alloc _).alloc _)
 go_enter Tryz.func90, Tryz.ntmps90
 go_wp2_with fail
 refine (divide_any ba bb va vb (tw w n n ba bb) HA.out HB.out hpos hvb).mono ?_
 rintro e w1 ⟨bq, br, rfl, hB, h1, h2, hQ, hR⟩
 have e3 : (tw w n n ba bb).heap.size = w.heap.size + 1 + 1 + 1 := size3 _ _ _
 rw [e3] at hB h1 h2
 have HBW : Hid (Below (w.heap.size + 1 + 1 + 1) (tw w n n ba bb) w1) := hB
 have HQ : Hid (Row w1 bq (va / vb)) := hQ
 obtain ⟨c1, c2, c3, c4, c5, c6, f5, f6⟩ := boxes hB
 clear hB hQ hR e3
 go_wp2
 refine bodyPost_ret (v := .agg #[.bool false, .slice (some ⟨bq, 0, none⟩) 6 6]) (by simp [results, Tryz.results90, go_sem, c5, c6]) rfl ⟨bq, rfl, ?_, ?_⟩
 ·exact (((three _ _ _).trans (HBW.out.mono (by omega))).setCell (Nat.le_trans (Nat.le_add_right _ 2) (Nat.le_refl _)) _).setCell (Nat.le_trans (Nat.le_add_right _ 2) (Nat.le_refl _)) _
 ·exact (HQ.out.setCell (a := ⟨w.heap.size + 1 + 1, 0, none⟩) (show w.heap.size + 1 + 1 ≠ bq by omega) _).setCell (a := ⟨w.heap.size + 1 + 1, 1, none⟩) (show w.heap.size + 1 + 1 ≠ bq by omega) _
theorem over_exact (n m : Bool) (hnm : ¬ n = m) (ba bb va vb : Nat) (w : World) (ha : Row w ba va) (hb : Row w bb vb) (hpos : 0 < vb) (hvb : vb < 18446744073709551616) (hz : va % vb = 0) :
  Calls Tryz.prog 90 #[.agg #[.bool n, .slice (some ⟨ba, 0, none⟩) 6 6], .agg #[.bool m, .slice (some ⟨bb, 0, none⟩) 6 6]] w fun e w' => ∃ b, e = zr (.agg #[.bool (!decide (va / vb = 0)), .slice (some ⟨b, 0, none⟩) 6 6]) ∧ Below w.heap.size w w' ∧ Row w' b (va / vb) := by
 have HA : Hid (Row (tw w n m ba bb) ba va) := (((ha.alloc _).alloc _).alloc _)
 have HB : Hid (Row (tw w n m ba bb) bb vb) := (((hb.alloc _).alloc _).alloc _)
 have hnm' : (n == m) = false := by cases n <;> cases m <;> simp_all
 have hnn : (n != m) = true := by cases n <;> cases m <;> simp_all
 go_enter Tryz.func90, Tryz.ntmps90
 go_wp2_with fail
 refine (divide_any ba bb va vb (tw w n m ba bb) HA.out HB.out hpos hvb).mono ?_
 rintro e w1 ⟨bq, br, rfl, hB, h1, h2, hQ, hR⟩
 have e3 : (tw w n m ba bb).heap.size = w.heap.size + 1 + 1 + 1 := size3 _ _ _
 rw [e3] at hB h1 h2
 have HZ1 := rzero_any br _ w1 hR
 have HBW : Hid (Below (w.heap.size + 1 + 1 + 1) (tw w n m ba bb) w1) := hB
 have hs1 : w.heap.size + 1 + 1 + 1 ≤ w1.heap.size := by have := hB.size; rw [e3] at this; exact this
 have HQ : Hid (Row w1 bq (va / vb)) := hQ
 rw [decide_eq_true hz] at HZ1
 have HZ : Hid (Calls Tryz.prog 73 #[.slice (some ⟨br, 0, none⟩) 6 6] w1 fun e w' => e = zr (.bool true) ∧ Below w1.heap.size w1 w') := HZ1
 obtain ⟨c1, c2, c3, c4, c5, c6, f5, f6⟩ := boxes hB
 clear hB hQ hR e3 hz HZ1
 go_wp2_with fail
 refine HZ.out.mono ?_
 rintro e w2 ⟨rfl, hB2⟩
 have HB2 : Hid (Below (w.heap.size + 1 + 1 + 1) (tw w n m ba bb) w2) := HBW.out.trans (hB2.mono hs1)
 have HQ2 : Hid (Row w2 bq (va / vb)) := HQ.out.below hB2 HQ.out.2.1
 have hs2 : w1.heap.size ≤ w2.heap.size := hB2.size
 clear c1 c2 c3 c4 c5 c6 f5 f6 hB2
 obtain ⟨c1, c2, c3, c4, c5, c6, f5, f6⟩ := boxes HB2.out
 go_wp2_with fail
 refine (rzero_any bq _ w2 HQ2.out).mono ?_
 rintro e w3 ⟨rfl, hB3⟩
 have HB3 : Hid (Below (w.heap.size + 1 + 1 + 1) (tw w n m ba bb) w3) := HB2.out.trans (hB3.mono (by omega))
 have HQ3 : Hid (Row w3 bq (va / vb)) := HQ2.out.below hB3 HQ2.out.2.1
 clear c1 c2 c3 c4 c5 c6 f5 f6 hB3
 obtain ⟨c1, c2, c3, c4, c5, c6, f5, f6⟩ := boxes HB3.out
 obtain ⟨Z, hZ⟩ : ∃ Z, Z = decide (va / vb = 0) := ⟨_, rfl⟩
 rw [← hZ]
 have HZZ : Hid (Z = decide (va / vb = 0)) := hZ
 clear hZ
 go_wp2
 refine bodyPost_ret (v := .agg #[.bool (!Z), .slice (some ⟨bq, 0, none⟩) 6 6]) (by simp [results, Tryz.results90, go_sem, c5, c6]) rfl ⟨bq, by rw [HZZ.out], ?_, ?_⟩
 ·exact (((three _ _ _).trans (HB3.out.mono (by omega))).setCell (Nat.le_trans (Nat.le_add_right _ 2) (Nat.le_refl _)) _).setCell (Nat.le_trans (Nat.le_add_right _ 2) (Nat.le_refl _)) _
 ·exact (HQ3.out.setCell (a := ⟨w.heap.size + 1 + 1, 0, none⟩) (show w.heap.size + 1 + 1 ≠ bq by omega) _).setCell (a := ⟨w.heap.size + 1 + 1, 1, none⟩) (show w.heap.size + 1 + 1 ≠ bq by omega) _
theorem over_rest (n m : Bool) (hnm : ¬ n = m) (ba bb va vb : Nat) (w : World) (ha : Row w ba va) (hb : Row w bb vb) (hpos : 0 < vb) (hvb : vb < 18446744073709551616) (hz : ¬ va % vb = 0) (hva : va < 4294967296 ^ 5) :
  Calls Tryz.prog 90 #[.agg #[.bool n, .slice (some ⟨ba, 0, none⟩) 6 6], .agg #[.bool m, .slice (some ⟨bb, 0, none⟩) 6 6]] w fun e w' => ∃ b, e = zr (.agg #[.bool true, .slice (some ⟨b, 0, none⟩) 6 6]) ∧ Below w.heap.size w w' ∧ Row w' b (va / vb + 1) := by
 have HA : Hid (Row (tw w n m ba bb) ba va) := (((ha.alloc _).alloc _).alloc _)
 have HB : Hid (Row (tw w n m ba bb) bb vb) := (((hb.alloc _).alloc _).alloc _)
 have hnm' : (n == m) = false := by cases n <;> cases m <;> simp_all
 have hnn : (n != m) = true := by cases n <;> cases m <;> simp_all
 go_enter Tryz.func90, Tryz.ntmps90
 go_wp2_with fail
 refine (divide_any ba bb va vb (tw w n m ba bb) HA.out HB.out hpos hvb).mono ?_
 rintro e w1 ⟨bq, br, rfl, hB, h1, h2, hQ, hR⟩
 have e3 : (tw w n m ba bb).heap.size = w.heap.size + 1 + 1 + 1 := size3 _ _ _
 rw [e3] at hB h1 h2
 have HZ1 := rzero_any br _ w1 hR
 have HBW : Hid (Below (w.heap.size + 1 + 1 + 1) (tw w n m ba bb) w1) := hB
 have hs1 : w.heap.size + 1 + 1 + 1 ≤ w1.heap.size := by have := hB.size; rw [e3] at this; exact this
 have HQ : Hid (Row w1 bq (va / vb)) := hQ
 rw [decide_eq_false hz] at HZ1
 have HZ : Hid (Calls Tryz.prog 73 #[.slice (some ⟨br, 0, none⟩) 6 6] w1 fun e w' => e = zr (.bool false) ∧ Below w1.heap.size w1 w') := HZ1
 obtain ⟨c1, c2, c3, c4, c5, c6, f5, f6⟩ := boxes hB
 clear hB hQ hR e3 hz HZ1
 go_wp2_with fail
 refine HZ.out.mono ?_
 rintro e w2 ⟨rfl, hB2⟩
 have HB2 : Hid (Below (w.heap.size + 1 + 1 + 1) (tw w n m ba bb) w2) := HBW.out.trans (hB2.mono hs1)
 have HQ2 : Hid (Row w2 bq (va / vb)) := HQ.out.below hB2 HQ.out.2.1
 have hs2 : w1.heap.size ≤ w2.heap.size := hB2.size
 clear c1 c2 c3 c4 c5 c6 f5 f6 hB2
 obtain ⟨c1, c2, c3, c4, c5, c6, f5, f6⟩ := boxes HB2.out
 go_wp2_with fail
 refine (rof_any 1 (by omega) (by omega) w2).mono ?_
 rintro e w3 ⟨b1, rfl, hB3, hb1, hO⟩
 have HB3 : Hid (Below (w.heap.size + 1 + 1 + 1) (tw w n m ba bb) w3) := HB2.out.trans (hB3.mono (by omega))
 have HQ3 : Hid (Row w3 bq (va / vb)) := HQ2.out.below hB3 HQ2.out.2.1
 have HO : Hid (Row w3 b1 1) := hO
 have hs3 : w2.heap.size ≤ w3.heap.size := hB3.size
 have HC4 : Hid (Calls Tryz.prog 68 #[.slice (some ⟨bq, 0, none⟩) 6 6, .slice (some ⟨b1, 0, none⟩) 6 6] w3 fun e w' => e = zr (.slice (some ⟨w3.heap.size, 0, none⟩) 6 6) ∧ Part w3 w' w3.heap.size (fun j => Wd.dg (va / vb + 1) j)) := radd_any _ _ _ _ w3 HQ3.out HO.out
 clear c1 c2 c3 c4 c5 c6 f5 f6 hB3 hO
 obtain ⟨c1, c2, c3, c4, c5, c6, f5, f6⟩ := boxes HB3.out
 have hfl := field_w
 go_wp2_with fail
 clear hfl
 refine HC4.out.mono ?_
 rintro e w4 ⟨rfl, hP4⟩
 have hlt : va / vb + 1 < 4294967296 ^ 6 := Nat.lt_of_le_of_lt (Nat.succ_le_succ (Nat.div_le_self _ _)) (Nat.lt_of_le_of_lt (Nat.succ_le_of_lt hva) (by decide))
 have HB4 : Hid (Below (w.heap.size + 1 + 1 + 1) (tw w n m ba bb) w4) := HB3.out.trans (hP4.below.mono (by omega))
 have HQ4 : Hid (Row w4 w3.heap.size (va / vb + 1)) := hP4.row hlt
 have hs4 := hP4.size
 have C5 := rzero_any w3.heap.size _ w4 HQ4.out
 rw [decide_eq_false (Nat.succ_ne_zero (va / vb))] at C5
 have HC5 : Hid (Calls Tryz.prog 73 #[.slice (some ⟨w3.heap.size, 0, none⟩) 6 6] w4 fun e w' => e = zr (.bool false) ∧ Below w4.heap.size w4 w') := C5
 clear c1 c2 c3 c4 c5 c6 f5 f6 hP4 hlt C5
 obtain ⟨c1, c2, c3, c4, c5, c6, f5, f6⟩ := boxes HB4.out
 go_wp2_with fail
 refine HC5.out.mono ?_
 rintro e w5 ⟨rfl, hB5⟩
 have HB5 : Hid (Below (w.heap.size + 1 + 1 + 1) (tw w n m ba bb) w5) := HB4.out.trans (hB5.mono (by omega))
 have HQ5 : Hid (Row w5 w3.heap.size (va / vb + 1)) := HQ4.out.below hB5 HQ4.out.2.1
 clear c1 c2 c3 c4 c5 c6 f5 f6 hB5
 obtain ⟨c1, c2, c3, c4, c5, c6, f5, f6⟩ := boxes HB5.out
 go_wp2
 refine bodyPost_ret (v := .agg #[.bool true, .slice (some ⟨w3.heap.size, 0, none⟩) 6 6]) (by simp [results, Tryz.results90, go_sem, c5, c6]) rfl ⟨w3.heap.size, rfl, ?_, ?_⟩
 ·exact (((three _ _ _).trans (HB5.out.mono (by omega))).setCell (Nat.le_trans (Nat.le_add_right _ 2) (Nat.le_refl _)) _).setCell (Nat.le_trans (Nat.le_add_right _ 2) (Nat.le_refl _)) _
 ·exact (HQ5.out.setCell (a := ⟨w.heap.size + 1 + 1, 0, none⟩) (show w.heap.size + 1 + 1 ≠ w3.heap.size by omega) _).setCell (a := ⟨w.heap.size + 1 + 1, 1, none⟩) (show w.heap.size + 1 + 1 ≠ w3.heap.size by omega) _
theorem over_math (x c : Int) (hc : c ≠ 0) : x.fdiv c = if (decide (x < 0) != decide (c < 0)) = true then (if x.natAbs % c.natAbs = 0 then -((x.natAbs / c.natAbs : Nat) : Int) else -((x.natAbs / c.natAbs : Nat) : Int) - 1) else ((x.natAbs / c.natAbs : Nat) : Int) := by
 have h := scale_math x 1 c x.natAbs c.natAbs (by simp) rfl hc
 rw [Int.mul_one, show decide ((1 : Int) < 0) = false from rfl, Bool.bne_false] at h
 exact h
theorem wover (v u : Value) (x y : Int) (w : World) (hx : IsW w v x) (hy : IsW w u y) (h0 : y ≠ 0) (h1 : x.natAbs < 4294967296 ^ 5) (h2 : y.natAbs < 18446744073709551616) :
  Calls Tryz.prog 90 #[v, u] w fun e w' => ∃ v', e = .returned v' ∧ IsW w' v' (x.fdiv y) ∧ Below w.heap.size w w' := by
 obtain ⟨ba, rfl, ra⟩ := hx
 obtain ⟨bb, rfl, rb⟩ := hy
 have hm := over_math x y h0
 have hp : 0 < y.natAbs := by omega
 generalize hQ : x.natAbs / y.natAbs = Q at *
 generalize hR : x.natAbs % y.natAbs = R at *
 by_cases hs : decide (x < 0) = decide (y < 0)
 ·rw [hs, show (decide (y < 0) != decide (y < 0)) = false by simp, if_neg (by decide)] at hm
  rw [hs]
  refine (over_same _ ba bb _ _ w ra rb hp h2).mono fun e w' ⟨b, he, hb, hr⟩ => ⟨_, he, ⟨b, ?_, ?_⟩, hb⟩
  ·rw [hm, decide_eq_false (show ¬ (Q : Int) < 0 by omega)]
  ·rw [hm, Int.natAbs_natCast, ← hQ]; exact hr
 ·have hs' : (decide (x < 0) != decide (y < 0)) = true := by
   generalize decide (x < 0) = p at *
   generalize decide (y < 0) = q at *
   cases p <;> cases q <;> simp_all
  rw [if_pos hs'] at hm
  by_cases hz : R = 0
  ·rw [if_pos hz] at hm
   refine (over_exact _ _ hs ba bb _ _ w ra rb hp h2 (by rw [hR]; exact hz)).mono fun e w' ⟨b, he, hb, hr⟩ => ⟨_, he, ⟨b, ?_, ?_⟩, hb⟩
   ·rw [hQ, hm]
    by_cases hq : Q = 0
    ·rw [decide_eq_true hq, decide_eq_false (show ¬ -(Q : Int) < 0 by omega)]; rfl
    ·rw [decide_eq_false hq, decide_eq_true (show -(Q : Int) < 0 by omega)]; rfl
   ·rw [hm, Int.natAbs_neg, Int.natAbs_natCast, ← hQ]; exact hr
  ·rw [if_neg hz] at hm
   refine (over_rest _ _ hs ba bb _ _ w ra rb hp h2 (by rw [hR]; exact hz) h1).mono fun e w' ⟨b, he, hb, hr⟩ => ⟨_, he, ⟨b, ?_, ?_⟩, hb⟩
   ·rw [hm, decide_eq_true (show -(Q : Int) - 1 < 0 by omega)]
   ·rw [hm, show (-(Q : Int) - 1).natAbs = Q + 1 by omega, ← hQ]; exact hr
theorem refdiv_any (a b : Int) (h1 : -9223372036854775808 ≤ a) (h2 : a ≤ 9223372036854775807) (h3 : -9223372036854775808 ≤ b) (h4 : b ≤ 9223372036854775807) (hb : b ≠ 0) (w : World) :
  Calls Tryz.prog 74 #[vi ki a, vi ki b] w fun e w' => e = zr (.tuple #[vi ki (smV (a.fdiv b)), vi ki (smE (a.fdiv b))]) ∧ Below w.heap.size w w' := by
 have HS : Hid (∀ (v : Value) (w : World), IsW w v (a.fdiv b) → Calls Tryz.prog 89 #[v] w fun e w' => e = zr (.tuple #[vi ki (smV (a.fdiv b)), vi ki (smE (a.fdiv b))]) ∧ Below w.heap.size w w') := fun v w h => wsmall v _ w h
 generalize smV (a.fdiv b) = V at *
 generalize smE (a.fdiv b) = E at *
 have hb' : (b == 0) = false := by simpa using hb
 have la : a.natAbs < 4294967296 ^ 5 := Nat.lt_of_le_of_lt (show a.natAbs ≤ 18446744073709551616 by omega) (by decide)
 go_enter Tryz.func74, Tryz.ntmps74
 go_wp2_with fail
 refine (wof a h1 h2 _).mono ?_
 rintro e w1 ⟨v1, rfl, W1, B1⟩
 go_wp2_with fail
 refine (wof b h3 h4 _).mono ?_
 rintro e w2 ⟨v2, rfl, W2, b2⟩
 have W1' := W1.below b2
 have B2 := B1.trans (b2.mono B1.size)
 clear W1 b2 B1
 go_wp2_with fail
 refine (wover v1 v2 a b _ W1' W2 hb la (by omega)).mono ?_
 rintro e w3 ⟨v3, rfl, W3, b3⟩
 have B3 := B2.trans (b3.mono B2.size)
 clear b3 B2
 go_wp2_with fail
 refine (HS.out v3 _ W3).mono ?_
 rintro e w4 ⟨rfl, b4⟩
 have B4 := B3.trans (b4.mono B3.size)
 go_wp2
 go_ret2
 exact ⟨rfl, B4⟩
theorem fdiv_abs (a b : Int) (h1 : -9223372036854775808 ≤ a) (h2 : a ≤ 9223372036854775807) (hb : b ≠ 0) : (a.fdiv b).natAbs ≤ 9223372036854775809 := by
 have hm := over_math a b hb
 have hq : a.natAbs / b.natAbs ≤ 9223372036854775808 := Nat.le_trans (Nat.div_le_self _ _) (by omega)
 generalize a.natAbs / b.natAbs = Q at *
 generalize a.natAbs % b.natAbs = R at *
 rw [hm]
 split
 ·split <;> omega
 ·omega
theorem fdiv_in (a b : Int) (h1 : -9223372036854775808 ≤ a) (h2 : a ≤ 9223372036854775807) (hb : b ≠ 0) (h : a ≠ -9223372036854775808 ∨ b ≠ -1) : -9223372036854775808 ≤ a.fdiv b ∧ a.fdiv b ≤ 9223372036854775807 := by
 have hm := over_math a b hb
 by_cases o : b.natAbs = 1
 ·rw [o, Nat.div_one, Nat.mod_one, if_pos rfl] at hm
  rw [hm]
  rcases (show b = 1 ∨ b = -1 by omega) with rfl | rfl
  ·split
   ·omega
   ·rename_i hs
    have : ¬ a < 0 := fun hn => hs (by rw [decide_eq_true hn]; rfl)
    omega
  ·split <;> omega
 ·have hq : a.natAbs / b.natAbs ≤ a.natAbs / 2 := Nat.div_le_div_left (by omega) (by decide)
  generalize a.natAbs / b.natAbs = Q at *
  generalize a.natAbs % b.natAbs = R at *
  rw [hm]
  split
  ·split <;> omega
  ·omega
theorem fmod_is (a b : Int) : a + -(b * a.fdiv b) = a.fmod b := by
 have := Int.fmod_add_mul_fdiv a b
 omega
theorem refmod_any (a b : Int) (h1 : -9223372036854775808 ≤ a) (h2 : a ≤ 9223372036854775807) (h3 : -9223372036854775808 ≤ b) (h4 : b ≤ 9223372036854775807) (hb : b ≠ 0) (w : World) :
  Calls Tryz.prog 75 #[vi ki a, vi ki b] w fun e w' => e = zr (.tuple #[vi ki (smV (a.fmod b)), vi ki (smE (a.fmod b))]) ∧ Below w.heap.size w w' := by
 have HS : Hid (∀ (v : Value) (w : World), IsW w v (a.fmod b) → Calls Tryz.prog 89 #[v] w fun e w' => e = zr (.tuple #[vi ki (smV (a.fmod b)), vi ki (smE (a.fmod b))]) ∧ Below w.heap.size w w') := fun v w h => wsmall v _ w h
 have HF : Hid (a + -(b * a.fdiv b) = a.fmod b) := fmod_is a b
 have HQ : Hid ((a.fdiv b).natAbs ≤ 9223372036854775809) := fdiv_abs a b h1 h2 hb
 have HG : Hid (a.natAbs + (-(b * a.fdiv b)).natAbs < 4294967296 ^ 6) := by
  show _ < _
  rw [Int.natAbs_neg, Int.natAbs_mul]
  have h := Nat.mul_le_mul (show b.natAbs ≤ 9223372036854775808 by omega) HQ.out
  exact Nat.lt_of_le_of_lt (Nat.add_le_add (show a.natAbs ≤ 9223372036854775808 by omega) h) (by decide)
 generalize smV (a.fmod b) = V at *
 generalize smE (a.fmod b) = E at *
 have hb' : (b == 0) = false := by simpa using hb
 have la : a.natAbs < 4294967296 ^ 5 := Nat.lt_of_le_of_lt (show a.natAbs ≤ 18446744073709551616 by omega) (by decide)
 go_enter Tryz.func75, Tryz.ntmps75
 go_wp2_with fail
 refine (wof a h1 h2 _).mono ?_
 rintro e w1 ⟨v1, rfl, W1, B1⟩
 go_wp2_with fail
 refine (wof b h3 h4 _).mono ?_
 rintro e w2 ⟨v2, rfl, W2, b2⟩
 have W1' := W1.below b2
 have B2 := B1.trans (b2.mono B1.size)
 clear W1 b2 B1
 go_wp2_with fail
 refine (wof a h1 h2 _).mono ?_
 rintro e w3 ⟨v3, rfl, W3, b3⟩
 have W13 := W1'.below b3
 have W23 := W2.below b3
 have B3 := B2.trans (b3.mono B2.size)
 clear W1' W2 b3 B2
 go_wp2_with fail
 refine (wof b h3 h4 _).mono ?_
 rintro e w4 ⟨v4, rfl, W4, b4⟩
 have W14 := W13.below b4
 have W24 := W23.below b4
 have W34 := W3.below b4
 have B4 := B3.trans (b4.mono B3.size)
 clear W13 W23 W3 b4 B3
 go_wp2_with fail
 refine (wover v3 v4 a b _ W34 W4 hb la (by omega)).mono ?_
 rintro e w5 ⟨v5, rfl, W5, b5⟩
 have W15 := W14.below b5
 have W25 := W24.below b5
 have B5 := B4.trans (b5.mono B4.size)
 clear W14 W24 W34 W4 b5 B4
 go_wp2_with fail
 refine (wtimes v2 v5 b _ _ W25 W5 (by omega) (by have := HQ.out; omega)).mono ?_
 rintro e w6 ⟨v6, rfl, W6, b6⟩
 have W16 := W15.below b6
 have B6 := B5.trans (b6.mono B5.size)
 clear W15 W25 W5 b6 B5
 go_wp2_with fail
 refine (wminus v6 _ _ W6).mono ?_
 rintro e w7 ⟨v7, rfl, W7, b7⟩
 have W17 := W16.below b7
 have B7 := B6.trans (b7.mono B6.size)
 clear W16 W6 b7 B6
 go_wp2_with fail
 refine (wplus v1 v7 _ _ _ W17 W7 HG.out).mono ?_
 rintro e w8 ⟨v8, rfl, W8, b8⟩
 have B8 := B7.trans (b8.mono B7.size)
 rw [HF.out] at W8
 clear W17 W7 b8 B7
 go_wp2_with fail
 refine (HS.out v8 _ W8).mono ?_
 rintro e w9 ⟨rfl, b9⟩
 have B9 := B8.trans (b9.mono B8.size)
 go_wp2
 go_ret2
 exact ⟨rfl, B9⟩
theorem div_any (a b : Int) (h1 : -9223372036854775808 ≤ a) (h2 : a ≤ 9223372036854775807) (h3 : -9223372036854775808 ≤ b) (h4 : b ≤ 9223372036854775807) (hb : b ≠ 0) (w : World) :
  Calls Tryz.prog 58 #[vi ki a, vi ki b] w fun e w' => e = zr (.tuple #[vi ki (smV (a.fdiv b)), vi ki (smE (a.fdiv b))]) ∧ w' = w := by
 by_cases h : a ≠ -9223372036854775808 ∨ b ≠ -1
 ·obtain ⟨g1, g2⟩ := fdiv_in a b h1 h2 hb h
  rw [smV_in g1 g2, smE_in g1 g2]
  exact div_in a b h1 h2 h3 h4 hb h w
 ·obtain ⟨rfl, rfl⟩ : a = -9223372036854775808 ∧ b = -1 := by omega
  have e : (-9223372036854775808 : Int).fdiv (-1) = 9223372036854775808 := by decide
  rw [e, smV_out (by omega), smE_out (by omega)]
  exact div_edge w
end Go.Proofs.YtpdmndlpgjjopaaGreatDoor
namespace Go.Proofs.YtpdmndlpgjjopaaGreatDoor.Dy
open Go.RowKit
def dok (n : Int) : Bool := decide (-2451507 ≤ n ∧ n ≤ 106751982)
theorem dok_yes {n : Int} (h : dok n = true) : -2451507 ≤ n ∧ n ≤ 106751982 := of_decide_eq_true h
theorem dok_can {n : Int} (h : Cvl.can n = false) : dok n = false := by
 have := of_decide_eq_false h
 exact decide_eq_false (by omega)
theorem can_dok {n : Int} (h : dok n = true) : Cvl.can n = true := by
 have := dok_yes h
 exact Cvl.can_yes (by omega) (by omega)
theorem dok_year {n y m d : Int} (h : Cv.Is n y m d) : dok n = decide (-4712 ≤ y ∧ y ≤ 294276) := by
 obtain ⟨a, b⟩ := Cv.is_year h
 have s1 : Cv.S (-4712) = -2451507 := by decide
 have s2 : Cv.S 294277 = 106751983 := by decide
 unfold dok
 apply decide_eq_decide.2
 constructor
 ·rintro ⟨p, q⟩
  constructor
  ·by_cases k : -4712 ≤ y
   ·exact k
   ·have := Cv.S_mono (show y + 1 ≤ -4712 by omega); omega
  ·by_cases k : y ≤ 294276
   ·exact k
   ·have := Cv.S_mono (show 294277 ≤ y by omega); omega
 ·rintro ⟨p, q⟩
  have h1 := Cv.S_mono p
  have h2 := Cv.S_mono (show y + 1 ≤ 294277 by omega)
  omega
theorem canBe_any (n : Int) (w : World) (hL : Cvl.Lens w) :
  Calls Tryz.prog 35 #[vi ki n] w fun e w' => e = zr (.bool (dok n)) ∧ w' = w := by
 cases hc : Cvl.can n
 ·rw [dok_can hc]
  have D : Hid (∀ w : World, Calls Tryz.prog 60 #[vi ki n] w fun e w' => e = zr (.tuple #[vi ki 0, vi ki 0, vi ki 0, vi ki 10]) ∧ w' = w) := fun w => Cvl.date_no n hc w
  clear hc hL
  go_enter Tryz.func35, Tryz.ntmps35
  go_wp2_with fail
  refine (D.out _).mono ?_
  rintro e w1 ⟨rfl, rfl⟩
  go_wp2
  go_ret
  exact ⟨rfl, rfl⟩
 ·obtain ⟨y, m, d, hd⟩ := Cv.is_date n
  have D : Hid (∀ w : World, Cvl.Lens w → Calls Tryz.prog 60 #[vi ki n] w fun e w' => e = zr (.tuple #[vi ki y, vi ki m, vi ki d, vi ki 0]) ∧ w' = w) := fun w hw => Cvl.date_yes n y m d hc hd w hw
  rw [dok_year hd]
  have hL' : Hid (Cvl.Lens w) := hL
  clear hc hL hd
  by_cases h1 : -4712 ≤ y
  ·by_cases h2 : y ≤ 294276
   ·rw [decide_eq_true ⟨h1, h2⟩]
    go_enter Tryz.func35, Tryz.ntmps35
    go_wp2_with fail
    refine (D.out _ hL'.out).mono ?_
    rintro e w1 ⟨rfl, rfl⟩
    go_wp2
    go_ret
    exact ⟨rfl, rfl⟩
   ·rw [decide_eq_false (fun k => h2 k.2)]
    go_enter Tryz.func35, Tryz.ntmps35
    go_wp2_with fail
    refine (D.out _ hL'.out).mono ?_
    rintro e w1 ⟨rfl, rfl⟩
    go_wp2
    go_ret
    exact ⟨Cvl.ret_bool (by simp; omega), rfl⟩
  ·rw [decide_eq_false (fun k => h1 k.1)]
   go_enter Tryz.func35, Tryz.ntmps35
   go_wp2_with fail
   refine (D.out _ hL'.out).mono ?_
   rintro e w1 ⟨rfl, rfl⟩
   go_wp2
   go_ret
   exact ⟨rfl, rfl⟩
theorem inside_any (n : Int) (w : World) :
  Calls Tryz.prog 49 #[vi ki n] w fun e w' => e = zr (.bool (dok n)) ∧ w' = w := by
 cases hc : Cvl.can n
 ·rw [dok_can hc]
  have D : Hid (∀ w : World, Calls Tryz.prog 76 #[vi ki n] w fun e w' => e = zr (.tuple #[vi ki 0, vi ki 0, vi ki 0, vi ki 10]) ∧ w' = w) := fun w => Cvl.rdate_no n hc w
  clear hc
  go_enter Tryz.func49, Tryz.ntmps49
  go_wp2_with fail
  refine (D.out _).mono ?_
  rintro e w1 ⟨rfl, rfl⟩
  go_wp2
  go_ret
  exact ⟨rfl, rfl⟩
 ·obtain ⟨y, m, d, hd⟩ := Cv.is_date n
  have D : Hid (∀ w : World, Calls Tryz.prog 76 #[vi ki n] w fun e w' => e = zr (.tuple #[vi ki y, vi ki m, vi ki d, vi ki 0]) ∧ w' = w) := fun w => Cvl.rdate_yes n y m d hc hd w
  rw [dok_year hd]
  clear hc hd
  by_cases h1 : -4712 ≤ y
  ·by_cases h2 : y ≤ 294276
   ·rw [decide_eq_true ⟨h1, h2⟩]
    go_enter Tryz.func49, Tryz.ntmps49
    go_wp2_with fail
    refine (D.out _).mono ?_
    rintro e w1 ⟨rfl, rfl⟩
    go_wp2
    go_ret
    exact ⟨rfl, rfl⟩
   ·rw [decide_eq_false (fun k => h2 k.2)]
    go_enter Tryz.func49, Tryz.ntmps49
    go_wp2_with fail
    refine (D.out _).mono ?_
    rintro e w1 ⟨rfl, rfl⟩
    go_wp2
    go_ret
    exact ⟨Cvl.ret_bool (by simp; omega), rfl⟩
  ·rw [decide_eq_false (fun k => h1 k.1)]
   go_enter Tryz.func49, Tryz.ntmps49
   go_wp2_with fail
   refine (D.out _).mono ?_
   rintro e w1 ⟨rfl, rfl⟩
   go_wp2
   go_ret
   exact ⟨rfl, rfl⟩
theorem lens_of {w : World} (h : Cvl.Lens w) : Hid (∀ W : World, Below w.heap.size w W → Cvl.Lens W) := fun W hb => Lens_below h hb (Lens_lt h)
theorem ret_bool {a b : Bool} (h : a = b) : Ending.returned (.bool a) = zr (.bool b) := by rw [h]
def dR (i d : Int) : Bool := if i = 0 then dok d else decide ((i = -1 ∨ i = 1) ∧ d = 0)
def sR (i u : Int) : Bool := if i = 0 then dok (u / 86400000000) else decide ((i = -1 ∨ i = 1) ∧ u = 0)
theorem dR_0 (d : Int) : dR 0 d = dok d := rfl
theorem sR_0 (u : Int) : sR 0 u = dok (u / 86400000000) := rfl
theorem dR_1 {i : Int} (h : i ≠ 0) (d : Int) : dR i d = decide ((i = -1 ∨ i = 1) ∧ d = 0) := if_neg h
theorem sR_1 {i : Int} (h : i ≠ 0) (u : Int) : sR i u = decide ((i = -1 ∨ i = 1) ∧ u = 0) := if_neg h
theorem right_0 (d : Int) (c : Bool)
  (C : Hid (∀ w : World, Cvl.Lens w → Calls Tryz.prog 35 #[vi ki d] w fun r' w' => r' = zr (.bool c) ∧ w' = w))
  (w : World) (hL : Hid (∀ W : World, Below w.heap.size w W → Cvl.Lens W)) :
  Calls Tryz.prog 117 #[.agg #[vi ki 0, vi ki d]] w fun r' w' => r' = zr (.bool c) ∧ Below w.heap.size w w' := by
 have K0 := bsn1 w [vi ki 0, vi ki d] 95
 go_enter Tryz.func117, Tryz.ntmps117
 go_wp2_with fail
 refine (C.out _ (hL.out _ K0.out.1)).mono ?_
 rintro e W1 ⟨rfl, rfl⟩
 go_wp2
 go_ret
 exact ⟨rfl, K0.out.1⟩
theorem right_m0 (d : Int) (hd : d = 0)
  (w : World) :
  Calls Tryz.prog 117 #[.agg #[vi ki (-1), vi ki 0]] w fun r' w' => r' = zr (.bool true) ∧ Below w.heap.size w w' := by
 have K0 := bsn1 w [vi ki (-1), vi ki 0] 95
 go_enter Tryz.func117, Tryz.ntmps117
 go_wp2
 go_ret
 exact ⟨rfl, K0.out.1⟩
theorem right_p0 (d : Int) (hd : d = 0)
  (w : World) :
  Calls Tryz.prog 117 #[.agg #[vi ki 1, vi ki 0]] w fun r' w' => r' = zr (.bool true) ∧ Below w.heap.size w w' := by
 have K0 := bsn1 w [vi ki 1, vi ki 0] 95
 go_enter Tryz.func117, Tryz.ntmps117
 go_wp2
 go_ret
 exact ⟨rfl, K0.out.1⟩
theorem right_m1 (d : Int) (hd : d ≠ 0)
  (w : World) :
  Calls Tryz.prog 117 #[.agg #[vi ki (-1), vi ki d]] w fun r' w' => r' = zr (.bool false) ∧ Below w.heap.size w w' := by
 have d0 : (d == 0) = false := by simpa using hd
 have K0 := bsn1 w [vi ki (-1), vi ki d] 95
 go_enter Tryz.func117, Tryz.ntmps117
 go_wp2
 go_ret
 exact ⟨rfl, K0.out.1⟩
theorem right_p1 (d : Int) (hd : d ≠ 0)
  (w : World) :
  Calls Tryz.prog 117 #[.agg #[vi ki 1, vi ki d]] w fun r' w' => r' = zr (.bool false) ∧ Below w.heap.size w w' := by
 have d0 : (d == 0) = false := by simpa using hd
 have K0 := bsn1 w [vi ki 1, vi ki d] 95
 go_enter Tryz.func117, Tryz.ntmps117
 go_wp2
 go_ret
 exact ⟨rfl, K0.out.1⟩
theorem right_x (i d : Int) (h0 : i ≠ 0) (h1 : i ≠ -1) (h2 : i ≠ 1)
  (w : World) :
  Calls Tryz.prog 117 #[.agg #[vi ki i, vi ki d]] w fun r' w' => r' = zr (.bool false) ∧ Below w.heap.size w w' := by
 have g0 : (i == 0) = false := by simpa using h0
 have g1 : (i == -1) = false := by simpa using h1
 have g2 : (i == 1) = false := by simpa using h2
 have K0 := bsn1 w [vi ki i, vi ki d] 95
 go_enter Tryz.func117, Tryz.ntmps117
 go_wp2
 go_ret
 exact ⟨rfl, K0.out.1⟩
theorem rright_0 (d : Int) (c : Bool)
  (C : Hid (∀ w : World, Calls Tryz.prog 49 #[vi ki d] w fun r' w' => r' = zr (.bool c) ∧ w' = w))
  (w : World) :
  Calls Tryz.prog 88 #[.agg #[vi ki 0, vi ki d]] w fun r' w' => r' = zr (.bool c) ∧ Below w.heap.size w w' := by
 have K0 := bsn1 w [vi ki 0, vi ki d] 95
 go_enter Tryz.func88, Tryz.ntmps88
 go_wp2_with fail
 refine (C.out _).mono ?_
 rintro e W1 ⟨rfl, rfl⟩
 go_wp2
 go_ret
 exact ⟨rfl, K0.out.1⟩
theorem rright_m0 (d : Int) (hd : d = 0)
  (w : World) :
  Calls Tryz.prog 88 #[.agg #[vi ki (-1), vi ki 0]] w fun r' w' => r' = zr (.bool true) ∧ Below w.heap.size w w' := by
 have K0 := bsn1 w [vi ki (-1), vi ki 0] 95
 go_enter Tryz.func88, Tryz.ntmps88
 go_wp2
 go_ret
 exact ⟨rfl, K0.out.1⟩
theorem rright_p0 (d : Int) (hd : d = 0)
  (w : World) :
  Calls Tryz.prog 88 #[.agg #[vi ki 1, vi ki 0]] w fun r' w' => r' = zr (.bool true) ∧ Below w.heap.size w w' := by
 have K0 := bsn1 w [vi ki 1, vi ki 0] 95
 go_enter Tryz.func88, Tryz.ntmps88
 go_wp2
 go_ret
 exact ⟨rfl, K0.out.1⟩
theorem rright_m1 (d : Int) (hd : d ≠ 0)
  (w : World) :
  Calls Tryz.prog 88 #[.agg #[vi ki (-1), vi ki d]] w fun r' w' => r' = zr (.bool false) ∧ Below w.heap.size w w' := by
 have d0 : (d == 0) = false := by simpa using hd
 have K0 := bsn1 w [vi ki (-1), vi ki d] 95
 go_enter Tryz.func88, Tryz.ntmps88
 go_wp2
 go_ret
 exact ⟨rfl, K0.out.1⟩
theorem rright_p1 (d : Int) (hd : d ≠ 0)
  (w : World) :
  Calls Tryz.prog 88 #[.agg #[vi ki 1, vi ki d]] w fun r' w' => r' = zr (.bool false) ∧ Below w.heap.size w w' := by
 have d0 : (d == 0) = false := by simpa using hd
 have K0 := bsn1 w [vi ki 1, vi ki d] 95
 go_enter Tryz.func88, Tryz.ntmps88
 go_wp2
 go_ret
 exact ⟨rfl, K0.out.1⟩
theorem rright_x (i d : Int) (h0 : i ≠ 0) (h1 : i ≠ -1) (h2 : i ≠ 1)
  (w : World) :
  Calls Tryz.prog 88 #[.agg #[vi ki i, vi ki d]] w fun r' w' => r' = zr (.bool false) ∧ Below w.heap.size w w' := by
 have g0 : (i == 0) = false := by simpa using h0
 have g1 : (i == -1) = false := by simpa using h1
 have g2 : (i == 1) = false := by simpa using h2
 have K0 := bsn1 w [vi ki i, vi ki d] 95
 go_enter Tryz.func88, Tryz.ntmps88
 go_wp2
 go_ret
 exact ⟨rfl, K0.out.1⟩
theorem rst_0 (d N R : Int) (c : Bool)
  (SP : Hid (∀ w : World, Calls Tryz.prog 34 #[vi ki d] w fun r' w' => r' = zr (.tuple #[vi ki N, vi ki R]) ∧ w' = w))
  (C : Hid (∀ w : World, Cvl.Lens w → Calls Tryz.prog 35 #[vi ki N] w fun r' w' => r' = zr (.bool c) ∧ w' = w))
  (w : World) (hL : Hid (∀ W : World, Below w.heap.size w W → Cvl.Lens W)) :
  Calls Tryz.prog 17 #[.agg #[vi ki 0, vi ki d]] w fun r' w' => r' = zr (.bool c) ∧ Below w.heap.size w w' := by
 have K0 := bsn1 w [vi ki 0, vi ki d] 36
 go_enter Tryz.func17, Tryz.ntmps17
 go_wp2_with fail
 refine (SP.out _).mono ?_
 rintro e W1 ⟨rfl, rfl⟩
 go_wp2_with fail
 refine (C.out _ (hL.out _ K0.out.1)).mono ?_
 rintro e W2 ⟨rfl, rfl⟩
 go_wp2
 go_ret
 exact ⟨rfl, K0.out.1⟩
theorem rst_m0 (d : Int) (hd : d = 0)
  (w : World) :
  Calls Tryz.prog 17 #[.agg #[vi ki (-1), vi ki 0]] w fun r' w' => r' = zr (.bool true) ∧ Below w.heap.size w w' := by
 have K0 := bsn1 w [vi ki (-1), vi ki 0] 36
 go_enter Tryz.func17, Tryz.ntmps17
 go_wp2
 go_ret
 exact ⟨rfl, K0.out.1⟩
theorem rst_p0 (d : Int) (hd : d = 0)
  (w : World) :
  Calls Tryz.prog 17 #[.agg #[vi ki 1, vi ki 0]] w fun r' w' => r' = zr (.bool true) ∧ Below w.heap.size w w' := by
 have K0 := bsn1 w [vi ki 1, vi ki 0] 36
 go_enter Tryz.func17, Tryz.ntmps17
 go_wp2
 go_ret
 exact ⟨rfl, K0.out.1⟩
theorem rst_m1 (d : Int) (hd : d ≠ 0)
  (w : World) :
  Calls Tryz.prog 17 #[.agg #[vi ki (-1), vi ki d]] w fun r' w' => r' = zr (.bool false) ∧ Below w.heap.size w w' := by
 have d0 : (d == 0) = false := by simpa using hd
 have K0 := bsn1 w [vi ki (-1), vi ki d] 36
 go_enter Tryz.func17, Tryz.ntmps17
 go_wp2
 go_ret
 exact ⟨rfl, K0.out.1⟩
theorem rst_p1 (d : Int) (hd : d ≠ 0)
  (w : World) :
  Calls Tryz.prog 17 #[.agg #[vi ki 1, vi ki d]] w fun r' w' => r' = zr (.bool false) ∧ Below w.heap.size w w' := by
 have d0 : (d == 0) = false := by simpa using hd
 have K0 := bsn1 w [vi ki 1, vi ki d] 36
 go_enter Tryz.func17, Tryz.ntmps17
 go_wp2
 go_ret
 exact ⟨rfl, K0.out.1⟩
theorem rst_x (i d : Int) (h0 : i ≠ 0) (h1 : i ≠ -1) (h2 : i ≠ 1)
  (w : World) :
  Calls Tryz.prog 17 #[.agg #[vi ki i, vi ki d]] w fun r' w' => r' = zr (.bool false) ∧ Below w.heap.size w w' := by
 have g0 : (i == 0) = false := by simpa using h0
 have g1 : (i == -1) = false := by simpa using h1
 have g2 : (i == 1) = false := by simpa using h2
 have K0 := bsn1 w [vi ki i, vi ki d] 36
 go_enter Tryz.func17, Tryz.ntmps17
 go_wp2
 go_ret
 exact ⟨rfl, K0.out.1⟩
theorem rrst_0 (d N R : Int) (c : Bool)
  (SP : Hid (∀ w : World, Calls Tryz.prog 48 #[vi ki d] w fun r' w' => r' = zr (.tuple #[vi ki N, vi ki R]) ∧ Below w.heap.size w w'))
  (C : Hid (∀ w : World, Calls Tryz.prog 49 #[vi ki N] w fun r' w' => r' = zr (.bool c) ∧ w' = w))
  (w : World) :
  Calls Tryz.prog 25 #[.agg #[vi ki 0, vi ki d]] w fun r' w' => r' = zr (.bool c) ∧ Below w.heap.size w w' := by
 have K0 := bsn1 w [vi ki 0, vi ki d] 36
 go_enter Tryz.func25, Tryz.ntmps25
 go_wp2_with fail
 refine (SP.out _).mono ?_
 rintro e W1 ⟨rfl, hb⟩
 have K1 := bsb K0 hb
 clear hb K0
 obtain ⟨c1_0_0, c1_0_1⟩ := (bo1 K1).c2
 go_wp2_with fail
 refine (C.out _).mono ?_
 rintro e W2 ⟨rfl, hw⟩
 rw [hw]
 clear hw W2
 go_wp2
 go_ret
 exact ⟨rfl, K1.out.1⟩
theorem rrst_m0 (d : Int) (hd : d = 0)
  (w : World) :
  Calls Tryz.prog 25 #[.agg #[vi ki (-1), vi ki 0]] w fun r' w' => r' = zr (.bool true) ∧ Below w.heap.size w w' := by
 have K0 := bsn1 w [vi ki (-1), vi ki 0] 36
 go_enter Tryz.func25, Tryz.ntmps25
 go_wp2
 go_ret
 exact ⟨rfl, K0.out.1⟩
theorem rrst_p0 (d : Int) (hd : d = 0)
  (w : World) :
  Calls Tryz.prog 25 #[.agg #[vi ki 1, vi ki 0]] w fun r' w' => r' = zr (.bool true) ∧ Below w.heap.size w w' := by
 have K0 := bsn1 w [vi ki 1, vi ki 0] 36
 go_enter Tryz.func25, Tryz.ntmps25
 go_wp2
 go_ret
 exact ⟨rfl, K0.out.1⟩
theorem rrst_m1 (d : Int) (hd : d ≠ 0)
  (w : World) :
  Calls Tryz.prog 25 #[.agg #[vi ki (-1), vi ki d]] w fun r' w' => r' = zr (.bool false) ∧ Below w.heap.size w w' := by
 have d0 : (d == 0) = false := by simpa using hd
 have K0 := bsn1 w [vi ki (-1), vi ki d] 36
 go_enter Tryz.func25, Tryz.ntmps25
 go_wp2
 go_ret
 exact ⟨rfl, K0.out.1⟩
theorem rrst_p1 (d : Int) (hd : d ≠ 0)
  (w : World) :
  Calls Tryz.prog 25 #[.agg #[vi ki 1, vi ki d]] w fun r' w' => r' = zr (.bool false) ∧ Below w.heap.size w w' := by
 have d0 : (d == 0) = false := by simpa using hd
 have K0 := bsn1 w [vi ki 1, vi ki d] 36
 go_enter Tryz.func25, Tryz.ntmps25
 go_wp2
 go_ret
 exact ⟨rfl, K0.out.1⟩
theorem rrst_x (i d : Int) (h0 : i ≠ 0) (h1 : i ≠ -1) (h2 : i ≠ 1)
  (w : World) :
  Calls Tryz.prog 25 #[.agg #[vi ki i, vi ki d]] w fun r' w' => r' = zr (.bool false) ∧ Below w.heap.size w w' := by
 have g0 : (i == 0) = false := by simpa using h0
 have g1 : (i == -1) = false := by simpa using h1
 have g2 : (i == 1) = false := by simpa using h2
 have K0 := bsn1 w [vi ki i, vi ki d] 36
 go_enter Tryz.func25, Tryz.ntmps25
 go_wp2
 go_ret
 exact ⟨rfl, K0.out.1⟩
theorem right_any (i d : Int) (w : World) (hL : Cvl.Lens w) :
  Calls Tryz.prog 117 #[.agg #[vi ki i, vi ki d]] w fun e w' => e = zr (.bool (dR i d)) ∧ Below w.heap.size w w' := by
 by_cases h0 : i = 0
 ·subst h0
  rw [dR_0]
  exact right_0 d _ (fun w h => canBe_any _ w h) w (lens_of hL)
 ·rw [dR_1 h0]
  by_cases g1 : i = -1
  ·subst g1
   by_cases k : d = 0
   ·rw [decide_eq_true ⟨.inl rfl, k⟩]; subst k; exact right_m0 0 rfl w
   ·rw [decide_eq_false (fun q => k q.2)]; exact right_m1 d k w
  ·by_cases g2 : i = 1
   ·subst g2
    by_cases k : d = 0
    ·rw [decide_eq_true ⟨.inr rfl, k⟩]; subst k; exact right_p0 0 rfl w
    ·rw [decide_eq_false (fun q => k q.2)]; exact right_p1 d k w
   ·rw [decide_eq_false (fun q => q.1.elim g1 g2)]; exact right_x i d h0 g1 g2 w
theorem rright_any (i d : Int) (w : World) :
  Calls Tryz.prog 88 #[.agg #[vi ki i, vi ki d]] w fun e w' => e = zr (.bool (dR i d)) ∧ Below w.heap.size w w' := by
 by_cases h0 : i = 0
 ·subst h0
  rw [dR_0]
  exact rright_0 d _ (fun w => inside_any _ w) w
 ·rw [dR_1 h0]
  by_cases g1 : i = -1
  ·subst g1
   by_cases k : d = 0
   ·rw [decide_eq_true ⟨.inl rfl, k⟩]; subst k; exact rright_m0 0 rfl w
   ·rw [decide_eq_false (fun q => k q.2)]; exact rright_m1 d k w
  ·by_cases g2 : i = 1
   ·subst g2
    by_cases k : d = 0
    ·rw [decide_eq_true ⟨.inr rfl, k⟩]; subst k; exact rright_p0 0 rfl w
    ·rw [decide_eq_false (fun q => k q.2)]; exact rright_p1 d k w
   ·rw [decide_eq_false (fun q => q.1.elim g1 g2)]; exact rright_x i d h0 g1 g2 w
theorem rst_any (i d : Int) (h1 : -9223372036854775808 ≤ d) (h2 : d ≤ 9223372036854775807) (w : World) (hL : Cvl.Lens w) :
  Calls Tryz.prog 17 #[.agg #[vi ki i, vi ki d]] w fun e w' => e = zr (.bool (sR i d)) ∧ Below w.heap.size w w' := by
 by_cases h0 : i = 0
 ·subst h0
  rw [sR_0]
  exact rst_0 d _ _ _ (fun w => split_any d h1 h2 w) (fun w h => canBe_any _ w h) w (lens_of hL)
 ·rw [sR_1 h0]
  by_cases g1 : i = -1
  ·subst g1
   by_cases k : d = 0
   ·rw [decide_eq_true ⟨.inl rfl, k⟩]; subst k; exact rst_m0 0 rfl w
   ·rw [decide_eq_false (fun q => k q.2)]; exact rst_m1 d k w
  ·by_cases g2 : i = 1
   ·subst g2
    by_cases k : d = 0
    ·rw [decide_eq_true ⟨.inr rfl, k⟩]; subst k; exact rst_p0 0 rfl w
    ·rw [decide_eq_false (fun q => k q.2)]; exact rst_p1 d k w
   ·rw [decide_eq_false (fun q => q.1.elim g1 g2)]; exact rst_x i d h0 g1 g2 w
theorem sm_div (u : Int) (h1 : -9223372036854775808 ≤ u) (h2 : u ≤ 9223372036854775807) : smV (u.fdiv 86400000000) = u / 86400000000 ∧ smE (u.fdiv 86400000000) = 0 ∧ smV (u.fmod 86400000000) = u % 86400000000 ∧ smE (u.fmod 86400000000) = 0 := by
 rw [day_div, day_mod]
 exact ⟨smV_in (by omega) (by omega), smE_in (by omega) (by omega), smV_in (by omega) (by omega), smE_in (by omega) (by omega)⟩
theorem rsplit_any (u : Int) (h1 : -9223372036854775808 ≤ u) (h2 : u ≤ 9223372036854775807) (w : World) :
  Calls Tryz.prog 48 #[vi ki u] w fun e w' => e = zr (.tuple #[vi ki (u / 86400000000), vi ki (u % 86400000000)]) ∧ Below w.heap.size w w' := by
 have C1 : Hid (∀ w : World, Calls Tryz.prog 74 #[vi ki u, vi ki 86400000000] w fun e w' => e = zr (.tuple #[vi ki (u / 86400000000), vi ki 0]) ∧ Below w.heap.size w w') := fun w => by
  have R := refdiv_any u 86400000000 h1 h2 (by decide) (by decide) (by decide) w
  rw [(sm_div u h1 h2).1, (sm_div u h1 h2).2.1] at R
  exact R
 have C2 : Hid (∀ w : World, Calls Tryz.prog 75 #[vi ki u, vi ki 86400000000] w fun e w' => e = zr (.tuple #[vi ki (u % 86400000000), vi ki 0]) ∧ Below w.heap.size w w') := fun w => by
  have R := refmod_any u 86400000000 h1 h2 (by decide) (by decide) (by decide) w
  rw [(sm_div u h1 h2).2.2.1, (sm_div u h1 h2).2.2.2] at R
  exact R
 generalize u / 86400000000 = q at *
 generalize u % 86400000000 = r at *
 go_enter Tryz.func48, Tryz.ntmps48
 go_wp2_with fail
 refine (C1.out _).mono ?_
 rintro e w1 ⟨rfl, b1⟩
 go_wp2_with fail
 refine (C2.out _).mono ?_
 rintro e w2 ⟨rfl, b2⟩
 have B2 := b1.trans (b2.mono b1.size)
 go_wp2
 go_ret2
 exact ⟨rfl, B2⟩
theorem rrst_any (i d : Int) (h1 : -9223372036854775808 ≤ d) (h2 : d ≤ 9223372036854775807) (w : World) :
  Calls Tryz.prog 25 #[.agg #[vi ki i, vi ki d]] w fun e w' => e = zr (.bool (sR i d)) ∧ Below w.heap.size w w' := by
 by_cases h0 : i = 0
 ·subst h0
  rw [sR_0]
  exact rrst_0 d _ _ _ (fun w => rsplit_any d h1 h2 w) (fun w => inside_any _ w) w
 ·rw [sR_1 h0]
  by_cases g1 : i = -1
  ·subst g1
   by_cases k : d = 0
   ·rw [decide_eq_true ⟨.inl rfl, k⟩]; subst k; exact rrst_m0 0 rfl w
   ·rw [decide_eq_false (fun q => k q.2)]; exact rrst_m1 d k w
  ·by_cases g2 : i = 1
   ·subst g2
    by_cases k : d = 0
    ·rw [decide_eq_true ⟨.inr rfl, k⟩]; subst k; exact rrst_p0 0 rfl w
    ·rw [decide_eq_false (fun q => k q.2)]; exact rrst_p1 d k w
   ·rw [decide_eq_false (fun q => q.1.elim g1 g2)]; exact rrst_x i d h0 g1 g2 w
def oV (n e : Int) : Int := if e = 0 ∧ dok n = true then n else 0
def oE (n e : Int) : Int := if e = 0 ∧ dok n = true then 0 else 10
theorem o_yes {n : Int} (h : dok n = true) : oV n 0 = n ∧ oE n 0 = 0 := ⟨if_pos ⟨rfl, h⟩, if_pos ⟨rfl, h⟩⟩
theorem o_no {n e : Int} (h : e ≠ 0 ∨ dok n = false) : oV n e = 0 ∧ oE n e = 10 := by
 have k : ¬ (e = 0 ∧ dok n = true) := fun q => h.elim (fun z => z q.1) (fun z => by rw [z] at q; exact absurd q.2 (by decide))
 exact ⟨if_neg k, if_neg k⟩
theorem of_bad (n e : Int) (he : e ≠ 0)
  (w : World) :
  Calls Tryz.prog 126 #[vi ki n, vi ki e] w fun r' w' => r' = zr (.tuple #[.agg #[vi ki 0, vi ki 0], vi ki 10]) ∧ Below w.heap.size w w' := by
 have e1 : (e != 0) = true := bne_iff_ne.2 he
 have K0 := bsn1 w [vi ki 0, vi ki 0] 95
 go_enter Tryz.func126, Tryz.ntmps126
 go_wp2
 exact bodyPost_ret (v := .tuple #[.agg #[vi ki 0, vi ki 0], vi ki 10]) (by simp [results, Tryz.results126, go_sem]) rfl ⟨rfl, (by repeat' (first | assumption | exact Below.refl _ _ | exact Nat.le_refl _ | refine Below.alloc ?_ ?_ _ | (simp; done) | (simp; omega) | omega))⟩
theorem of_true (n : Int)
  (C : Hid (∀ w : World, Cvl.Lens w → Calls Tryz.prog 35 #[vi ki n] w fun r' w' => r' = zr (.bool true) ∧ w' = w))
  (w : World) (hL : Hid (∀ W : World, Below w.heap.size w W → Cvl.Lens W)) :
  Calls Tryz.prog 126 #[vi ki n, vi ki 0] w fun r' w' => r' = zr (.tuple #[.agg #[vi ki 0, vi ki n], vi ki 0]) ∧ Below w.heap.size w w' := by
 have K0 := bsn1 w [vi ki 0, vi ki 0] 95
 go_enter Tryz.func126, Tryz.ntmps126
 go_wp2_with fail
 refine (C.out _ (hL.out _ K0.out.1)).mono ?_
 rintro e W1 ⟨rfl, rfl⟩
 go_wp2
 exact bodyPost_ret (v := .tuple #[.agg #[vi ki 0, vi ki n], vi ki 0]) (by simp [results, Tryz.results126, go_sem]) rfl ⟨rfl, (by repeat' (first | assumption | exact Below.refl _ _ | exact Nat.le_refl _ | refine Below.alloc ?_ ?_ _ | (simp; done) | (simp; omega) | omega))⟩
theorem of_false (n : Int)
  (C : Hid (∀ w : World, Cvl.Lens w → Calls Tryz.prog 35 #[vi ki n] w fun r' w' => r' = zr (.bool false) ∧ w' = w))
  (w : World) (hL : Hid (∀ W : World, Below w.heap.size w W → Cvl.Lens W)) :
  Calls Tryz.prog 126 #[vi ki n, vi ki 0] w fun r' w' => r' = zr (.tuple #[.agg #[vi ki 0, vi ki 0], vi ki 10]) ∧ Below w.heap.size w w' := by
 have K0 := bsn1 w [vi ki 0, vi ki 0] 95
 go_enter Tryz.func126, Tryz.ntmps126
 go_wp2_with fail
 refine (C.out _ (hL.out _ K0.out.1)).mono ?_
 rintro e W1 ⟨rfl, rfl⟩
 go_wp2
 exact bodyPost_ret (v := .tuple #[.agg #[vi ki 0, vi ki 0], vi ki 10]) (by simp [results, Tryz.results126, go_sem]) rfl ⟨rfl, (by repeat' (first | assumption | exact Below.refl _ _ | exact Nat.le_refl _ | refine Below.alloc ?_ ?_ _ | (simp; done) | (simp; omega) | omega))⟩
theorem of_any (n e : Int) (w : World) (hL : Cvl.Lens w) :
  Calls Tryz.prog 126 #[vi ki n, vi ki e] w fun r w' => r = zr (.tuple #[.agg #[vi ki 0, vi ki (oV n e)], vi ki (oE n e)]) ∧ Below w.heap.size w w' := by
 by_cases he : e = 0
 ·subst he
  cases h : dok n
  ·rw [(o_no (.inr h)).1, (o_no (.inr h)).2]; exact of_false n (fun w hh => by rw [← h]; exact canBe_any n w hh) w (lens_of hL)
  ·rw [(o_yes h).1, (o_yes h).2]; exact of_true n (fun w hh => by rw [← h]; exact canBe_any n w hh) w (lens_of hL)
 ·rw [(o_no (.inl he)).1, (o_no (.inl he)).2]; exact of_bad n e he w
theorem days_meth (b n v e : Int)
  (A : Hid (∀ w : World, Calls Tryz.prog 55 #[vi ki n, vi ki b] w fun r' w' => r' = zr (.tuple #[vi ki v, vi ki e]) ∧ w' = w))
  (w : World) :
  Calls Tryz.prog 116 #[vi ki b, vi ki n] w fun r' w' => r' = zr (.tuple #[vi ki v, vi ki e]) ∧ w' = w := by
 go_enter Tryz.func116, Tryz.ntmps116
 go_wp2_with fail
 refine (A.out _).mono ?_
 rintro e W1 ⟨rfl, rfl⟩
 go_wp2
 go_ret2
 exact ⟨rfl, rfl⟩
theorem months_meth (b n v e : Int)
  (A : Hid (∀ w : World, Cvl.Lens w → Calls Tryz.prog 127 #[vi ki n, vi ki b] w fun r' w' => r' = zr (.tuple #[vi ki v, vi ki e]) ∧ w' = w))
  (w : World) (hL : Hid (∀ W : World, Below w.heap.size w W → Cvl.Lens W)) :
  Calls Tryz.prog 115 #[vi ki b, vi ki n] w fun r' w' => r' = zr (.tuple #[vi ki v, vi ki e]) ∧ w' = w := by
 have K0 : Hid (BS w [] w) := (BS.start w)
 go_enter Tryz.func115, Tryz.ntmps115
 go_wp2_with fail
 refine (A.out _ (hL.out _ K0.out.1)).mono ?_
 rintro e W1 ⟨rfl, rfl⟩
 go_wp2
 go_ret2
 exact ⟨rfl, rfl⟩
end Go.Proofs.YtpdmndlpgjjopaaGreatDoor.Dy
