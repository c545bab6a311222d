import Derived.Test.YtklehbmghjcmaaaGreatDoorQz
import Derived.Test.YtklehbmghjcmaaaGreatDoorRows
import Derived.WalkKit
import Derived.WalkSpells
import Derived.WalkLawsBesides
import Derived.Lib.Strings
import Derived.Lib.Slices
import Derived.Lib.Small
import Derived.Lib.Walk
import Derived.Lib.BitFns
import Derived.Lib.Mul64
import Derived.Laws.Bits64b
import Derived.Lib.ItoaNum
import Derived.RegionTactic
import Derived.ChangeAlike
import Derived.Deep.MidRow
import Derived.Deep.RegionHeld3
import Derived.Deep.Cut
import Derived.Deep.CutRange
import Derived.Deep.DeepCutAuto
open Go.Value renaming int → vi
open Go.IntKind renaming i64 → ki
open List renaming setIfInBounds_toArray → zb, set_cons_zero → zc, set_cons_succ → zd
open Go.Act renaming put → za
open Go.Ending renaming returned → zr
set_option maxRecDepth 100000
set_option maxHeartbeats 16000000
set_option linter.unusedVariables false
namespace Go.Proofs.YtklehbmghjcmaaaGreatDoor
namespace Cv
def leap (y : Int) : Bool := (y % 4 == 0) && ((y % 100 != 0) || (y % 400 == 0))
def lp (y : Int) : Int := if leap y = true then 1 else 0
def len (y m : Int) : Int := if m = 2 then 28 + lp y else if m = 4 ∨ m = 6 ∨ m = 9 ∨ m = 11 then 30 else if 1 ≤ m ∧ m ≤ 12 then 31 else 0
def S (y : Int) : Int := 365 * (y + 4800) + (y + 4803) / 4 - (y + 4899) / 100 + (y + 5199) / 400 - 2483649
def cum (y m : Int) : Int :=
 if m ≤ 1 then 0 else if m = 2 then 31 else lp y + (if m = 3 then 59 else if m = 4 then 90 else if m = 5 then 120 else if m = 6 then 151 else if m = 7 then 181 else if m = 8 then 212 else if m = 9 then 243 else if m = 10 then 273 else if m = 11 then 304 else if m = 12 then 334 else 365)
theorem leap_iff (y : Int) : leap y = true ↔ (y % 4 = 0 ∧ (y % 100 ≠ 0 ∨ y % 400 = 0)) := by
 unfold leap; simp [bne_iff_ne]
theorem lp_eq (y : Int) : lp y = if (y % 4 = 0 ∧ (y % 100 ≠ 0 ∨ y % 400 = 0)) then 1 else 0 := by
 unfold lp; simp only [leap_iff]
theorem lp_01 (y : Int) : 0 ≤ lp y ∧ lp y ≤ 1 := by unfold lp; split <;> omega
theorem S_succ (y : Int) : S (y + 1) = S y + 365 + lp y := by
 rw [lp_eq]; unfold S; split <;> omega
theorem S_cycle (y k : Int) : S (y + 400 * k) = S y + 146097 * k := by unfold S; omega
theorem S_mono {y z : Int} (h : y ≤ z) : S y ≤ S z := by unfold S; omega
theorem S_lt {y z : Int} (h : S y < S z) : y < z := by
 by_cases g : z ≤ y
 ·have := S_mono g; omega
 ·omega
theorem year_one {n y z : Int} (h1 : S y ≤ n) (h2 : n < S (y + 1)) (h3 : S z ≤ n) (h4 : n < S (z + 1)) : y = z := by
 have a : y < z + 1 := S_lt (by omega)
 have b : z < y + 1 := S_lt (by omega)
 omega
theorem guess (n y : Int) (h : y = n * 400 / 146097) : S (2000 + y - 1) ≤ n ∧ n < S (2000 + y + 2) ∧ (S (2000 + y) ≤ n ∨ S (2000 + y - 1) ≤ n) := by
 unfold S; omega
theorem year_is (n : Int) : ∃ y, S y ≤ n ∧ n < S (y + 1) := by
 obtain ⟨g1, g2, _⟩ := guess n _ rfl
 generalize n * 400 / 146097 = y at *
 by_cases a : n < S (2000 + y)
 ·exact ⟨2000 + y - 1, g1, by rw [show 2000 + y - 1 + 1 = 2000 + y by omega]; exact a⟩
 ·by_cases b : n < S (2000 + y + 1)
  ·exact ⟨2000 + y, by omega, b⟩
  ·exact ⟨2000 + y + 1, by omega, by rw [show 2000 + y + 1 + 1 = 2000 + y + 2 by omega]; exact g2⟩
theorem len_01 (y m : Int) (h1 : 1 ≤ m) (h2 : m ≤ 12) : 28 ≤ len y m ∧ len y m ≤ 31 := by
 have := lp_01 y
 unfold len; split
 ·omega
 ·split
  ·omega
  ·split <;> omega
theorem len_bd (y m : Int) : 0 ≤ len y m ∧ len y m ≤ 31 := by
 have := lp_01 y
 unfold len; split
 ·omega
 ·split
  ·omega
  ·split <;> omega
theorem len_out (y m : Int) (h : m < 1 ∨ 12 < m) : len y m = 0 := by
 unfold len
 rw [if_neg (by omega), if_neg (by omega), if_neg (by omega)]
theorem twelve {m : Int} (h1 : 1 ≤ m) (h2 : m ≤ 12) : m = 1 ∨ m = 2 ∨ m = 3 ∨ m = 4 ∨ m = 5 ∨ m = 6 ∨ m = 7 ∨ m = 8 ∨ m = 9 ∨ m = 10 ∨ m = 11 ∨ m = 12 := by omega
theorem cum_succ (y m : Int) (h1 : 1 ≤ m) (h2 : m ≤ 12) : cum y (m + 1) = cum y m + len y m := by
 rcases twelve h1 h2 with rfl | rfl | rfl | rfl | rfl | rfl | rfl | rfl | rfl | rfl | rfl | rfl <;> simp [cum, len] <;> omega
theorem cum_one (y : Int) : cum y 1 = 0 := by simp [cum]
theorem cum_all (y : Int) : cum y 13 = 365 + lp y := by simp [cum]; omega
theorem cum_bd (y m : Int) : 0 ≤ cum y m ∧ cum y m ≤ 366 := by
 have := lp_01 y
 by_cases a : m ≤ 1
 ·unfold cum; rw [if_pos a]; omega
 ·by_cases b : m ≤ 12
  ·rcases twelve (m := m) (by omega) b with rfl | rfl | rfl | rfl | rfl | rfl | rfl | rfl | rfl | rfl | rfl | rfl <;> simp [cum] <;> omega
  ·unfold cum
   rw [if_neg a, if_neg (by omega), if_neg (by omega), if_neg (by omega), if_neg (by omega), if_neg (by omega), if_neg (by omega), if_neg (by omega), if_neg (by omega), if_neg (by omega), if_neg (by omega), if_neg (by omega)]
   omega
theorem cum_mono {y a b : Int} (h0 : 1 ≤ a) (h : a ≤ b) (h1 : b ≤ 13) : cum y a ≤ cum y b := by
 have := lp_01 y
 obtain ⟨k, rfl⟩ : ∃ k : Nat, b = a + k := ⟨(b - a).toNat, by omega⟩
 clear h
 induction k with
 | zero => simp
 | succ k ih =>
  have i := ih (by omega)
  have c := cum_succ y (a + k) (by omega) (by omega)
  have l := len_bd y (a + k)
  rw [show a + ((k + 1 : Nat) : Int) = a + (k : Int) + 1 by omega, c]
  omega
theorem month_is (y r : Int) (h1 : 0 ≤ r) (h2 : r < 365 + lp y) : ∃ m, 1 ≤ m ∧ m ≤ 12 ∧ cum y m ≤ r ∧ r < cum y (m + 1) := by
 have e := cum_all y
 have key : ∀ k : Nat, k ≤ 12 → r < cum y (k + 1) → ∃ m, 1 ≤ m ∧ m ≤ 12 ∧ cum y m ≤ r ∧ r < cum y (m + 1) := by
  intro k
  induction k with
  | zero => intro _ h; have e0 : cum y (((0 : Nat) : Int) + 1) = 0 := cum_one y; rw [e0] at h; omega
  | succ k ih =>
   intro hk h
   by_cases g : cum y ((k : Int) + 1) ≤ r
   ·exact ⟨(k : Int) + 1, by omega, by omega, g, by rw [show ((k : Int) + 1 + 1) = ((k + 1 : Nat) : Int) + 1 by omega]; exact h⟩
   ·exact ih (by omega) (by omega)
 exact key 12 (by omega) (by rw [show (((12 : Nat) : Int) + 1) = 13 by omega, e]; exact h2)
def Is (n y m d : Int) : Prop := 1 ≤ m ∧ m ≤ 12 ∧ 1 ≤ d ∧ d ≤ len y m ∧ n = S y + cum y m + d - 1
theorem is_date (n : Int) : ∃ y m d, Is n y m d := by
 obtain ⟨y, h1, h2⟩ := year_is n
 have e := S_succ y
 obtain ⟨m, m1, m2, c1, c2⟩ := month_is y (n - S y) (by omega) (by omega)
 have := cum_succ y m m1 m2
 exact ⟨y, m, n - S y - cum y m + 1, m1, m2, by omega, by omega, by omega⟩
theorem is_year {n y m d : Int} (h : Is n y m d) : S y ≤ n ∧ n < S (y + 1) := by
 obtain ⟨h1, h2, h3, h4, h5⟩ := h
 have a := cum_bd y m
 have b := cum_succ y m h1 h2
 have c := cum_mono (y := y) (a := m + 1) (b := 13) (by omega) (by omega) (by omega)
 have e := S_succ y
 rw [cum_all] at c
 omega
end Cv
end Go.Proofs.YtklehbmghjcmaaaGreatDoor
namespace Go.Proofs.YtklehbmghjcmaaaGreatDoor
namespace Nm
theorem tmod_neg_le {a b : Int} (h : a < 0) : a.tmod b ≤ 0 := by
 have := Int.tmod_nonneg (a := -a) b (by omega)
 rw [Int.neg_tmod] at this; omega
theorem keep {a b : Int} (hb : b ≠ 0) (h : a.tmod b = 0 ∨ (a.tmod b < 0 ↔ b < 0)) : a.fdiv b = a.tdiv b ∧ a.fmod b = a.tmod b := by
 rw [Int.fdiv_eq_tdiv, Int.fmod_eq_tmod]
 by_cases hd : b ∣ a
 ·simp [hd]
 ·have hz : a.tmod b ≠ 0 := fun e => hd (Int.dvd_of_tmod_eq_zero e)
  have hs : a.tmod b < 0 ↔ b < 0 := by rcases h with h | h; exact absurd h hz; exact h
  rw [if_neg hd, if_neg hd]
  by_cases ha : 0 ≤ a
  ·have h1 := Int.tmod_nonneg b ha
   have hb' : 0 ≤ b := by omega
   simp [ha, hb']
  ·have h1 := tmod_neg_le (a := a) (b := b) (by omega)
   have hb' : ¬ 0 ≤ b := by omega
   rw [if_neg ha, if_neg hb', if_neg ha, if_neg hb', Int.sign_eq_neg_one_of_neg (by omega)]
   have : (b.toNat : Int) = 0 := by omega
   omega
theorem down {a b : Int} (hb : b ≠ 0) (hz : a.tmod b ≠ 0) (h : ¬ (a.tmod b < 0 ↔ b < 0)) : a.fdiv b = a.tdiv b - 1 ∧ a.fmod b = a.tmod b + b := by
 have hd : ¬ b ∣ a := fun e => hz (Int.tmod_eq_zero_of_dvd e)
 rw [Int.fdiv_eq_tdiv, Int.fmod_eq_tmod, if_neg hd, if_neg hd]
 by_cases ha : 0 ≤ a
 ·have h1 := Int.tmod_nonneg b ha
  have hb' : ¬ 0 ≤ b := by omega
  simp [ha, hb']
 ·have h1 := tmod_neg_le (a := a) (b := b) (by omega)
  have hb' : 0 ≤ b := by omega
  rw [if_neg ha, if_pos hb', if_neg ha, if_pos hb', Int.sign_eq_one_of_pos (by omega)]
  omega
theorem tdiv_half {a b : Int} (h1 : -9223372036854775808 ≤ a) (h2 : a ≤ 9223372036854775807) (hb : b ≤ -2 ∨ 2 ≤ b) : -4611686018427387904 ≤ a.tdiv b ∧ a.tdiv b ≤ 4611686018427387904 := by
 have e : (a.tdiv b).natAbs = a.natAbs / b.natAbs := Int.natAbs_tdiv a b
 have l : a.natAbs / b.natAbs ≤ a.natAbs / 2 := Nat.div_le_div_left (by omega) (by omega)
 omega
theorem tdiv_bd {a b : Int} (h1 : -9223372036854775808 ≤ a) (h2 : a ≤ 9223372036854775807) (hb : b ≠ 0) (h : a ≠ -9223372036854775808 ∨ b ≠ -1) : -9223372036854775808 ≤ a.tdiv b ∧ a.tdiv b ≤ 9223372036854775807 := by
 by_cases h3 : b = 1
 ·subst h3; rw [Int.tdiv_one]; omega
 ·by_cases h4 : b = -1
  ·subst h4; rw [Int.tdiv_neg, Int.tdiv_one]; omega
  ·have := tdiv_half h1 h2 (b := b) (by omega)
   omega
theorem two_of_left {a b : Int} (hb : b ≠ 0) (hz : a.tmod b ≠ 0) : b ≤ -2 ∨ 2 ≤ b := by
 by_cases h3 : b = 1
 ·subst h3; exact absurd (Int.tmod_one a) hz
 ·by_cases h4 : b = -1
  ·subst h4; rw [Int.tmod_neg, Int.tmod_one] at hz; exact absurd rfl hz
  ·omega
theorem tmod_bd {a b : Int} (hb : b ≠ 0) : (a.tmod b).natAbs < b.natAbs := by
 have e : (a.tmod b).natAbs = a.natAbs % b.natAbs := Int.natAbs_tmod a b
 rw [e]
 exact Nat.mod_lt _ (by omega)
end Nm
end Go.Proofs.YtklehbmghjcmaaaGreatDoor
namespace Go.Proofs.YtklehbmghjcmaaaGreatDoor
open Go.RowKit
theorem ret_int {k : IntKind} {a b : Int} (h : a = b) : Ending.returned (.int k a) = zr (.int k b) := by rw [h]
theorem ret_two {k l : IntKind} {a b c d : Int} (h : a = b) (g : c = d) : Ending.returned (.tuple #[.int k a, .int l c]) = zr (.tuple #[.int k b, .int l d]) := by rw [h, g]
def smV (x : Int) : Int := if -9223372036854775808 ≤ x ∧ x ≤ 9223372036854775807 then x else 0
def smE (x : Int) : Int := if -9223372036854775808 ≤ x ∧ x ≤ 9223372036854775807 then 0 else 10
theorem smV_in {x : Int} (h1 : -9223372036854775808 ≤ x) (h2 : x ≤ 9223372036854775807) : smV x = x := if_pos ⟨h1, h2⟩
theorem smE_in {x : Int} (h1 : -9223372036854775808 ≤ x) (h2 : x ≤ 9223372036854775807) : smE x = 0 := if_pos ⟨h1, h2⟩
theorem smV_out {x : Int} (h : x < -9223372036854775808 ∨ 9223372036854775807 < x) : smV x = 0 := if_neg (by omega)
theorem smE_out {x : Int} (h : x < -9223372036854775808 ∨ 9223372036854775807 < x) : smE x = 10 := if_neg (by omega)
theorem size_any (a : Int) (h1 : -9223372036854775808 ≤ a) (h2 : a ≤ 9223372036854775807) (w : World) :
  Calls Tryz.prog 215 #[vi ki a] w fun e w' => e = zr (.int .u64 (a.natAbs : Int)) ∧ w' = w := by
 by_cases h : a < 0
 ·go_enter Tryz.func215, Tryz.ntmps215
  go_wp2
  go_ret
  exact ⟨ret_int (by simp only [IntKind.wrap_u64]; omega), rfl⟩
 ·go_enter Tryz.func215, Tryz.ntmps215
  go_wp2
  go_ret
  exact ⟨ret_int (by omega), rfl⟩
theorem add_in (a b : Int) (h1 : -9223372036854775808 ≤ a) (h2 : a ≤ 9223372036854775807) (h3 : -9223372036854775808 ≤ b) (h4 : b ≤ 9223372036854775807)
  (l1 : -9223372036854775808 ≤ a + b) (l2 : a + b ≤ 9223372036854775807) (w : World) :
  Calls Tryz.prog 81 #[vi ki a, vi ki b] w fun e w' => e = zr (.tuple #[vi ki (a + b), vi ki 0]) ∧ w' = w := by
 by_cases h : b < 0
 ·have hs : a + b < a := by omega
  go_enter Tryz.func81, Tryz.ntmps81
  go_wp2
  go_ret2
  exact ⟨rfl, rfl⟩
 ·have hs : ¬ a + b < a := by omega
  go_enter Tryz.func81, Tryz.ntmps81
  go_wp2
  go_ret2
  exact ⟨rfl, rfl⟩
theorem add_out (a b : Int) (h1 : -9223372036854775808 ≤ a) (h2 : a ≤ 9223372036854775807) (h3 : -9223372036854775808 ≤ b) (h4 : b ≤ 9223372036854775807)
  (l : a + b < -9223372036854775808 ∨ 9223372036854775807 < a + b) (w : World) :
  Calls Tryz.prog 81 #[vi ki a, vi ki b] w fun e w' => e = zr (.tuple #[vi ki 0, vi ki 10]) ∧ w' = w := by
 rcases l with l | l
 ·have h : b < 0 := by omega
  have hs : ¬ wrap64 (a + b) < a := by unfold wrap64; omega
  clear l
  go_enter Tryz.func81, Tryz.ntmps81
  go_wp2
  go_ret2
  exact ⟨rfl, rfl⟩
 ·have h : ¬ b < 0 := by omega
  have hs : wrap64 (a + b) < a := by unfold wrap64; omega
  clear l
  go_enter Tryz.func81, Tryz.ntmps81
  go_wp2
  go_ret2
  exact ⟨rfl, rfl⟩
theorem add_any (a b : Int) (h1 : -9223372036854775808 ≤ a) (h2 : a ≤ 9223372036854775807) (h3 : -9223372036854775808 ≤ b) (h4 : b ≤ 9223372036854775807) (w : World) :
  Calls Tryz.prog 81 #[vi ki a, vi ki b] w fun e w' => e = zr (.tuple #[vi ki (smV (a + b)), vi ki (smE (a + b))]) ∧ w' = w := by
 by_cases l : -9223372036854775808 ≤ a + b ∧ a + b ≤ 9223372036854775807
 ·rw [smV_in l.1 l.2, smE_in l.1 l.2]; exact add_in a b h1 h2 h3 h4 l.1 l.2 w
 ·rw [smV_out (by omega), smE_out (by omega)]; exact add_out a b h1 h2 h3 h4 (by omega) w
def sgn (b : Bool) (n : Nat) : Int := if b then -(n : Int) else n
theorem signed_big (b : Bool) (n : Nat) (hn : n < 18446744073709551616) (h : 9223372036854775808 < n) (w : World) :
  Calls Tryz.prog 194 #[.bool b, .int .u64 n] w fun e w' => e = zr (.tuple #[vi ki 0, vi ki 10]) ∧ w' = w := by
 have h' : (9223372036854775808 : Int) < n := by omega
 clear h
 go_enter Tryz.func194, Tryz.ntmps194
 go_wp2
 go_ret2
 exact ⟨rfl, rfl⟩
theorem signed_small (b : Bool) (n : Nat) (h : n < 9223372036854775808) (w : World) :
  Calls Tryz.prog 194 #[.bool b, .int .u64 n] w fun e w' => e = zr (.tuple #[vi ki (sgn b n), vi ki 0]) ∧ w' = w := by
 have h' : ¬ (9223372036854775808 : Int) < n := by omega
 have h2 : ((n : Int) == 9223372036854775808) = false := by rw [beq_eq_false_iff_ne]; omega
 cases b
 ·go_enter Tryz.func194, Tryz.ntmps194
  go_wp2
  go_ret2
  exact ⟨ret_two (by unfold sgn; simp) rfl, rfl⟩
 ·go_enter Tryz.func194, Tryz.ntmps194
  go_wp2
  go_ret2
  exact ⟨ret_two (by unfold sgn; simp only [IntKind.wrap_u64, wrap64]; simp; omega) rfl, rfl⟩
theorem signed_edge (b : Bool) (n : Nat) (h : n = 9223372036854775808) (w : World) :
  Calls Tryz.prog 194 #[.bool b, .int .u64 n] w fun e w' => e = zr (.tuple #[vi ki (smV (sgn b n)), vi ki (smE (sgn b n))]) ∧ w' = w := by
 have h' : ¬ (9223372036854775808 : Int) < n := by omega
 have h2 : ((n : Int) == 9223372036854775808) = true := by rw [beq_iff_eq]; omega
 cases b
 ·rw [show sgn false n = (n : Int) from rfl, smV_out (by omega), smE_out (by omega)]
  clear h
  go_enter Tryz.func194, Tryz.ntmps194
  go_wp2
  go_ret2
  exact ⟨rfl, rfl⟩
 ·have hs : sgn true n = -(n : Int) := rfl
  have e : IntKind.i64.wrap (IntKind.u64.wrap (-(n : Int))) = -(n : Int) := by simp only [IntKind.wrap_u64, IntKind.wrap_i64]; omega
  have e' : wrap64 (IntKind.u64.wrap (-(n : Int))) = -(n : Int) := by simp only [IntKind.wrap_u64, wrap64]; omega
  rw [hs, smV_in (by omega) (by omega), smE_in (by omega) (by omega)]
  clear h hs
  go_enter Tryz.func194, Tryz.ntmps194
  go_wp2
  go_ret2
  exact ⟨rfl, rfl⟩
theorem signed_any (b : Bool) (n : Nat) (hn : n < 18446744073709551616) (w : World) :
  Calls Tryz.prog 194 #[.bool b, .int .u64 n] w fun e w' => e = zr (.tuple #[vi ki (smV (sgn b n)), vi ki (smE (sgn b n))]) ∧ w' = w := by
 by_cases h : n < 9223372036854775808
 ·have l : -9223372036854775808 ≤ sgn b n ∧ sgn b n ≤ 9223372036854775807 := by unfold sgn; cases b <;> simp <;> omega
  rw [smV_in l.1 l.2, smE_in l.1 l.2]; exact signed_small b n h w
 ·by_cases g : n = 9223372036854775808
  ·exact signed_edge b n g w
  ·have l : sgn b n < -9223372036854775808 ∨ 9223372036854775807 < sgn b n := by unfold sgn; cases b <;> simp <;> omega
   rw [smV_out l, smE_out l]; exact signed_big b n hn (by omega) w
theorem div_edge (w : World) :
  Calls Tryz.prog 80 #[vi ki (-9223372036854775808), vi ki (-1)] w fun e w' => e = zr (.tuple #[vi ki 0, vi ki 10]) ∧ w' = w := by
 go_enter Tryz.func80, Tryz.ntmps80
 go_wp2
 go_ret2
 exact ⟨rfl, rfl⟩
theorem div_in (a b : Int) (h1 : -9223372036854775808 ≤ a) (h2 : a ≤ 9223372036854775807) (h3 : -9223372036854775808 ≤ b) (h4 : b ≤ 9223372036854775807)
  (hb : b ≠ 0) (h : a ≠ -9223372036854775808 ∨ b ≠ -1) (w : World) :
  Calls Tryz.prog 80 #[vi ki a, vi ki b] w fun e w' => e = zr (.tuple #[vi ki (a.fdiv b), vi ki 0]) ∧ w' = w := by
 have hb0 : (b == 0) = false := by rw [beq_eq_false_iff_ne]; exact hb
 have he : (a == -9223372036854775808) = false ∨ ((a == -9223372036854775808) = true ∧ (b == -1) = false) := by
  by_cases ha : a = -9223372036854775808
  ·exact .inr ⟨by rw [beq_iff_eq]; exact ha, by rw [beq_eq_false_iff_ne]; omega⟩
  ·exact .inl (by rw [beq_eq_false_iff_ne]; exact ha)
 obtain ⟨q1, q2⟩ := Nm.tdiv_bd h1 h2 hb h
 by_cases hz : a.tmod b = 0
 ·have hq : Hid (a.fdiv b = a.tdiv b) := (Nm.keep hb (.inl hz)).1
  have hz' : (a.tmod b != 0) = false := by rw [hz]; rfl
  have hw : wrap64 (a.tdiv b) = a.tdiv b := by unfold wrap64; omega
  clear hz h
  rcases he with he | ⟨he, he2⟩
  all_goals
   go_enter Tryz.func80, Tryz.ntmps80
   go_wp2
   go_ret2
   exact ⟨ret_two hq.out.symm rfl, rfl⟩
 ·have hz' : (a.tmod b != 0) = true := by rw [bne_iff_ne]; exact hz
  by_cases hs : a.tmod b < 0 ↔ b < 0
  ·have hq : Hid (a.fdiv b = a.tdiv b) := (Nm.keep hb (.inr hs)).1
   have hw : wrap64 (a.tdiv b) = a.tdiv b := by unfold wrap64; omega
   by_cases hn : b < 0
   ·have hm : a.tmod b < 0 := hs.2 hn
    clear hs hz h
    rcases he with he | ⟨he, he2⟩
    all_goals
     go_enter Tryz.func80, Tryz.ntmps80
     go_wp2
     go_ret2
     exact ⟨ret_two hq.out.symm rfl, rfl⟩
   ·have hm : ¬ a.tmod b < 0 := fun x => hn (hs.1 x)
    clear hs hz h
    rcases he with he | ⟨he, he2⟩
    all_goals
     go_enter Tryz.func80, Tryz.ntmps80
     go_wp2
     go_ret2
     exact ⟨ret_two hq.out.symm rfl, rfl⟩
  ·have hq : Hid (a.fdiv b = a.tdiv b - 1) := (Nm.down hb hz hs).1
   obtain ⟨q3, q4⟩ := Nm.tdiv_half h1 h2 (Nm.two_of_left hb hz)
   have hw : wrap64 (a.tdiv b) = a.tdiv b := by unfold wrap64; omega
   by_cases hn : b < 0
   ·have hm : ¬ a.tmod b < 0 := fun x => hs ⟨fun _ => hn, fun _ => x⟩
    clear hs hz h
    rcases he with he | ⟨he, he2⟩
    all_goals
     go_enter Tryz.func80, Tryz.ntmps80
     go_wp2
     go_ret2
     exact ⟨ret_two hq.out.symm rfl, rfl⟩
   ·have hm : a.tmod b < 0 := by
     by_cases x : a.tmod b < 0
     ·exact x
     ·exact absurd ⟨fun y => absurd y x, fun y => absurd y hn⟩ hs
    clear hs hz h
    rcases he with he | ⟨he, he2⟩
    all_goals
     go_enter Tryz.func80, Tryz.ntmps80
     go_wp2
     go_ret2
     exact ⟨ret_two hq.out.symm rfl, rfl⟩
end Go.Proofs.YtklehbmghjcmaaaGreatDoor
namespace Go.Proofs.YtklehbmghjcmaaaGreatDoor
open Go.RowKit
end Go.Proofs.YtklehbmghjcmaaaGreatDoor
namespace Go.Proofs.YtklehbmghjcmaaaGreatDoor
open Go.RowKit
theorem andLow (a : Nat) (ha : a < 18446744073709551616) : bits .and .u64 (a : Int) 4294967295 = ((a % 4294967296 : Nat) : Int) := by
 have h := bits_and_u64_nat a 4294967295 ha (by omega)
 rw [show a &&& 4294967295 = a % 4294967296 from Nat.and_two_pow_sub_one_eq_mod a 32] at h
 exact h
theorem castDiv (a : Nat) : (a : Int) / 4294967296 = ((a / 4294967296 : Nat) : Int) := by omega
theorem castMul (a b : Nat) : (a : Int) * (b : Int) = ((a * b : Nat) : Int) := (Int.natCast_mul a b).symm
theorem castAdd (a b : Nat) : (a : Int) + (b : Int) = ((a + b : Nat) : Int) := (Int.natCast_add a b).symm
theorem castWrap (a : Nat) (ha : a < 18446744073709551616) : IntKind.u64.wrap (a : Int) = (a : Int) := by rw [IntKind.wrap_u64]; omega
theorem castMod (a : Nat) : IntKind.u64.wrap (a : Int) = ((a % 18446744073709551616 : Nat) : Int) := by rw [IntKind.wrap_u64]; omega
theorem mul64_any (x y : Nat) (hx : x < 18446744073709551616) (hy : y < 18446744073709551616) (w : World) :
  Calls Tryz.prog 214 #[.int .u64 x, .int .u64 y] w fun e w' => e = zr (.tuple #[.int .u64 ((x * y / 18446744073709551616 : Nat) : Int), .int .u64 ((x * y % 18446744073709551616 : Nat) : Int)]) ∧ w' = w := by
 obtain ⟨bd, bt, bw, hhi⟩ := Lib.mul64_hi x y hx hy
 have ba := Lib.half_mul_le (a := x / 4294967296) (b := y / 4294967296) (by omega) (by omega)
 have bb := Lib.half_mul_le (a := x / 4294967296) (b := y % 4294967296) (by omega) (by omega)
 have bc := Lib.half_mul_le (a := x % 4294967296) (b := y / 4294967296) (by omega) (by omega)
 have ba' : x / 4294967296 * (y / 4294967296) < 18446744073709551616 := by omega
 have bb' : x / 4294967296 * (y % 4294967296) < 18446744073709551616 := by omega
 have bc' : x % 4294967296 * (y / 4294967296) < 18446744073709551616 := by omega
 have b1 : x / 4294967296 * (y / 4294967296) + (x / 4294967296 * (y % 4294967296) + x % 4294967296 * (y % 4294967296) / 4294967296) / 4294967296 < 18446744073709551616 := by omega
 have b2 : x / 4294967296 * (y / 4294967296) + (x / 4294967296 * (y % 4294967296) + x % 4294967296 * (y % 4294967296) / 4294967296) / 4294967296 + ((x / 4294967296 * (y % 4294967296) + x % 4294967296 * (y % 4294967296) / 4294967296) % 4294967296 + x % 4294967296 * (y / 4294967296)) / 4294967296 < 18446744073709551616 := by omega
 go_enter Tryz.func214, Tryz.ntmps214
 go_wp2
 simp only [andLow x hx, andLow y hy, castDiv, castMul, castAdd, castWrap _ bd, castWrap _ bb', castWrap _ bt, andLow _ bt, castWrap _ bc', castWrap _ bw, castWrap _ ba', castWrap _ b1, castWrap _ b2, castMod (x * y)]
 rw [hhi]
 go_ret2
 exact ⟨rfl, rfl⟩
theorem halves (p H L : Nat) (he : (p : Int) = (H : Int) * 18446744073709551616 + L) (hL : L < 18446744073709551616) : p / 18446744073709551616 = H ∧ p % 18446744073709551616 = L := by omega
theorem mul64_hl (x y H L : Nat) (hx : x < 18446744073709551616) (hy : y < 18446744073709551616) (he : ((x * y : Nat) : Int) = (H : Int) * 18446744073709551616 + L) (hL : L < 18446744073709551616) (w : World) :
  Calls Tryz.prog 214 #[.int .u64 x, .int .u64 y] w fun e w' => e = zr (.tuple #[.int .u64 (H : Int), .int .u64 (L : Int)]) ∧ w' = w := by
 obtain ⟨e1, e2⟩ := halves (x * y) H L he hL
 have := mul64_any x y hx hy w
 rw [e1, e2] at this
 exact this
theorem product_any (a b : Int) (H L : Nat) (h1 : -9223372036854775808 ≤ a) (h2 : a ≤ 9223372036854775807) (h3 : -9223372036854775808 ≤ b) (h4 : b ≤ 9223372036854775807)
  (he : ((a.natAbs * b.natAbs : Nat) : Int) = (H : Int) * 18446744073709551616 + L) (hL : L < 18446744073709551616) (w : World) :
  Calls Tryz.prog 193 #[vi ki a, vi ki b] w fun e w' => e = zr (.agg #[.int .u64 (H : Int), .int .u64 (L : Int)]) ∧ Below w.heap.size w w' := by
 have C1 := size_any a h1 h2
 have C2 := size_any b h3 h4
 have C3 := mul64_hl a.natAbs b.natAbs H L (by omega) (by omega) he hL
 generalize a.natAbs = x at *
 generalize b.natAbs = y at *
 have H1 : Hid (∀ w : World, Calls Tryz.prog 215 #[vi ki a] w fun e w' => e = zr (.int .u64 (x : Int)) ∧ w' = w) := C1
 have H2 : Hid (∀ w : World, Calls Tryz.prog 215 #[vi ki b] w fun e w' => e = zr (.int .u64 (y : Int)) ∧ w' = w) := C2
 have H3 : Hid (∀ w : World, Calls Tryz.prog 214 #[.int .u64 x, .int .u64 y] w fun e w' => e = zr (.tuple #[.int .u64 (H : Int), .int .u64 (L : Int)]) ∧ w' = w) := C3
 clear C1 C2 C3 he
 go_enter Tryz.func193, Tryz.ntmps193
 go_wp2_with fail
 refine (H1.out _).mono ?_
 rintro e w1 ⟨rfl, rfl⟩
 go_wp2_with fail
 refine (H2.out _).mono ?_
 rintro e w1 ⟨rfl, rfl⟩
 go_wp2_with fail
 refine (H3.out _).mono ?_
 rintro e w1 ⟨rfl, rfl⟩
 go_wp2
 exact bodyPost_ret (v := .agg #[.int .u64 (H : Int), .int .u64 (L : Int)]) (by simp [results, Tryz.results193, go_sem]) rfl ⟨rfl, ((Below.refl _ _).alloc (Nat.le_refl _) _).alloc (by simp) _⟩
theorem halves_of (p : Nat) : (p : Int) = ((p / 18446744073709551616 : Nat) : Int) * 18446744073709551616 + (p % 18446744073709551616 : Nat) ∧ p % 18446744073709551616 < 18446744073709551616 := by omega
theorem sgn_of (a b : Int) : sgn (decide (a < 0) != decide (b < 0)) (a.natAbs * b.natAbs) = a * b := by
 have e : ((a.natAbs * b.natAbs : Nat) : Int) = (a.natAbs : Int) * (b.natAbs : Int) := Int.natCast_mul _ _
 unfold sgn
 rw [e]
 by_cases ha : a < 0
 ·have ea : (a.natAbs : Int) = -a := by omega
  by_cases hb : b < 0
  ·have eb : (b.natAbs : Int) = -b := by omega
   simp [ha, hb, ea, eb, Int.neg_mul, Int.mul_neg]
  ·have eb : (b.natAbs : Int) = b := by omega
   simp [ha, hb, ea, eb, Int.neg_mul]
 ·have ea : (a.natAbs : Int) = a := by omega
  by_cases hb : b < 0
  ·have eb : (b.natAbs : Int) = -b := by omega
   simp [ha, hb, ea, eb, Int.mul_neg]
  ·have eb : (b.natAbs : Int) = b := by omega
   simp [ha, hb, ea, eb]
theorem mul_hl (a b : Int) (H L : Nat) (h1 : -9223372036854775808 ≤ a) (h2 : a ≤ 9223372036854775807) (h3 : -9223372036854775808 ≤ b) (h4 : b ≤ 9223372036854775807)
  (he : ((a.natAbs * b.natAbs : Nat) : Int) = (H : Int) * 18446744073709551616 + L) (hL : L < 18446744073709551616) (w : World) :
  Calls Tryz.prog 160 #[vi ki a, vi ki b] w fun e w' => e = zr (.tuple #[vi ki (smV (a * b)), vi ki (smE (a * b))]) ∧ Below w.heap.size w w' := by
 have C1 := product_any a b H L h1 h2 h3 h4 he hL
 have H1 : Hid (∀ w : World, Calls Tryz.prog 193 #[vi ki a, vi ki b] w fun e w' => e = zr (.agg #[.int .u64 (H : Int), .int .u64 (L : Int)]) ∧ Below w.heap.size w w') := C1
 clear C1
 have hs := sgn_of a b
 by_cases hz : H = 0
 ·have e1 : a.natAbs * b.natAbs = L := by omega
  rw [e1] at hs
  have H2 : Hid (∀ w : World, Calls Tryz.prog 194 #[.bool (decide (a < 0) != decide (b < 0)), .int .u64 L] w fun e w' => e = zr (.tuple #[vi ki (smV (a * b)), vi ki (smE (a * b))]) ∧ w' = w) := by
   intro w
   rw [← hs]
   exact signed_any _ L hL w
  have hn : ((H : Int) != 0) = false := by rw [hz]; rfl
  clear he hs e1 hz
  go_enter Tryz.func160, Tryz.ntmps160
  go_wp2_with fail
  refine (H1.out _).mono ?_
  rintro e w1 ⟨rfl, hb1⟩
  have hz1 := hb1.size
  go_wp2_with fail
  refine (H2.out _).mono ?_
  rintro e w2 ⟨rfl, rfl⟩
  go_wp2
  go_ret2
  exact ⟨rfl, hb1.alloc (Nat.le_trans hz1 (Nat.le_refl _)) _⟩
 ·have hn : ((H : Int) != 0) = true := by rw [bne_iff_ne]; omega
  have ho : a * b < -9223372036854775808 ∨ 9223372036854775807 < a * b := by
   rw [← hs]
   have : 18446744073709551616 ≤ a.natAbs * b.natAbs := by omega
   unfold sgn
   split <;> omega
  rw [smV_out ho, smE_out ho]
  clear he hs ho hz
  go_enter Tryz.func160, Tryz.ntmps160
  go_wp2_with fail
  refine (H1.out _).mono ?_
  rintro e w1 ⟨rfl, hb1⟩
  have hz1 := hb1.size
  go_wp2_with fail
  go_ret2
  exact ⟨rfl, hb1.alloc (Nat.le_trans hz1 (Nat.le_refl _)) _⟩
theorem mul_any (a b : Int) (h1 : -9223372036854775808 ≤ a) (h2 : a ≤ 9223372036854775807) (h3 : -9223372036854775808 ≤ b) (h4 : b ≤ 9223372036854775807) (w : World) :
  Calls Tryz.prog 160 #[vi ki a, vi ki b] w fun e w' => e = zr (.tuple #[vi ki (smV (a * b)), vi ki (smE (a * b))]) ∧ Below w.heap.size w w' :=
 mul_hl a b _ _ h1 h2 h3 h4 (halves_of _).1 (halves_of _).2 w
theorem mod_in (a b : Int) (h3 : -9223372036854775808 ≤ b) (h4 : b ≤ 9223372036854775807) (hb : b ≠ 0) (w : World) :
  Calls Tryz.prog 117 #[vi ki a, vi ki b] w fun e w' => e = zr (.tuple #[vi ki (a.fmod b), vi ki 0]) ∧ w' = w := by
 have hb0 : (b == 0) = false := by rw [beq_eq_false_iff_ne]; exact hb
 have bd := Nm.tmod_bd (a := a) hb
 by_cases hz : a.tmod b = 0
 ·have hq : Hid (a.fmod b = a.tmod b) := (Nm.keep hb (.inl hz)).2
  have hz' : (a.tmod b != 0) = false := by rw [hz]; rfl
  clear hz
  go_enter Tryz.func117, Tryz.ntmps117
  go_wp2
  go_ret2
  exact ⟨ret_two hq.out.symm rfl, rfl⟩
 ·have hz' : (a.tmod b != 0) = true := by rw [bne_iff_ne]; exact hz
  by_cases hs : a.tmod b < 0 ↔ b < 0
  ·have hq : Hid (a.fmod b = a.tmod b) := (Nm.keep hb (.inr hs)).2
   by_cases hn : b < 0
   ·have hm : a.tmod b < 0 := hs.2 hn
    clear hs hz
    go_enter Tryz.func117, Tryz.ntmps117
    go_wp2
    go_ret2
    exact ⟨ret_two hq.out.symm rfl, rfl⟩
   ·have hm : ¬ a.tmod b < 0 := fun x => hn (hs.1 x)
    clear hs hz
    go_enter Tryz.func117, Tryz.ntmps117
    go_wp2
    go_ret2
    exact ⟨ret_two hq.out.symm rfl, rfl⟩
  ·have hq : Hid (a.fmod b = a.tmod b + b) := (Nm.down hb hz hs).2
   by_cases hn : b < 0
   ·have hm : ¬ a.tmod b < 0 := fun x => hs ⟨fun _ => hn, fun _ => x⟩
    have l1 : -9223372036854775808 ≤ a.tmod b + b := by omega
    have l2 : a.tmod b + b ≤ 9223372036854775807 := by omega
    clear hs hz
    go_enter Tryz.func117, Tryz.ntmps117
    go_wp2
    go_ret2
    exact ⟨ret_two hq.out.symm rfl, rfl⟩
   ·have hm : a.tmod b < 0 := by
     by_cases x : a.tmod b < 0
     ·exact x
     ·exact absurd ⟨fun y => absurd y x, fun y => absurd y hn⟩ hs
    have l1 : -9223372036854775808 ≤ a.tmod b + b := by omega
    have l2 : a.tmod b + b ≤ 9223372036854775807 := by omega
    clear hs hz
    go_enter Tryz.func117, Tryz.ntmps117
    go_wp2
    go_ret2
    exact ⟨ret_two hq.out.symm rfl, rfl⟩
theorem day_div (u : Int) : u.fdiv 86400000000 = u / 86400000000 := Int.fdiv_eq_ediv_of_nonneg u (by decide)
theorem day_mod (u : Int) : u.fmod 86400000000 = u % 86400000000 := Int.fmod_eq_emod_of_nonneg u (by decide)
theorem split_any (u : Int) (h1 : -9223372036854775808 ≤ u) (h2 : u ≤ 9223372036854775807) (w : World) :
  Calls Tryz.prog 76 #[vi ki u] w fun e w' => e = zr (.tuple #[vi ki (u / 86400000000), vi ki (u % 86400000000)]) ∧ w' = w := by
 have C1 := div_in u 86400000000 h1 h2 (by decide) (by decide) (by decide) (.inr (by decide))
 have C2 := mod_in u 86400000000 (by decide) (by decide) (by decide)
 rw [day_div] at C1
 rw [day_mod] at C2
 have H1 : Hid (∀ w : World, Calls Tryz.prog 80 #[vi ki u, vi ki 86400000000] w fun e w' => e = zr (.tuple #[vi ki (u / 86400000000), vi ki 0]) ∧ w' = w) := C1
 have H2 : Hid (∀ w : World, Calls Tryz.prog 117 #[vi ki u, vi ki 86400000000] w fun e w' => e = zr (.tuple #[vi ki (u % 86400000000), vi ki 0]) ∧ w' = w) := C2
 clear C1 C2
 go_enter Tryz.func76, Tryz.ntmps76
 go_wp2_with fail
 refine (H1.out _).mono ?_
 rintro e w1 ⟨rfl, rfl⟩
 go_wp2_with fail
 refine (H2.out _).mono ?_
 rintro e w1 ⟨rfl, rfl⟩
 go_wp2
 go_ret2
 exact ⟨rfl, rfl⟩
end Go.Proofs.YtklehbmghjcmaaaGreatDoor
namespace Go.Proofs.YtklehbmghjcmaaaGreatDoor
namespace Dv
theorem guess (u d y y1 y0 : Nat) (hy : y = y1 * 4294967296 + y0) (h0 : y0 < 4294967296) (h1 : 2147483648 ≤ y1) (hu : u < y) (hd : d < 4294967296) :
  (u * 4294967296 + d) / y ≤ u / y1 ∧ u / y1 ≤ 4294967297 ∧ u / y1 * y1 + u % y1 = u ∧ (u * 4294967296 + d) / y < 4294967296 := by
 refine ⟨?_, ?_, ?_, ?_⟩
 ·have e : u / y1 = (u * 4294967296 + d) / 4294967296 / y1 := by
   have : (u * 4294967296 + d) / 4294967296 = u := by omega
   rw [this]
  rw [e, Nat.div_div_eq_div_mul]
  exact Nat.div_le_div_left (by rw [Nat.mul_comm]; omega) (Nat.mul_pos (by omega) (by omega))
 ·have : u / y1 < 4294967298 := Nat.div_lt_of_lt_mul (by omega)
  omega
 ·rw [Nat.mul_comm]; exact Nat.div_add_mod u y1
 ·exact Nat.div_lt_of_lt_mul (by rw [Nat.mul_comm]; omega)
theorem split (q y y1 y0 : Nat) (hy : y = y1 * 4294967296 + y0) : q * y = 4294967296 * (q * y1) + q * y0 := by
 rw [hy, Nat.mul_add, ← Nat.mul_assoc, Nat.mul_comm (q * y1)]
theorem two_b (b u d1 d0 A B r1 r0 : Nat) (h1 : u * b + d1 = A + r1) (h2 : r1 * b + d0 = B + r0) : u * (b * b) + (d1 * b + d0) = r0 + (A * b + B) := by
 have e1 : u * (b * b) + (d1 * b + d0) = (u * b + d1) * b + d0 := by rw [Nat.add_mul, Nat.mul_assoc, Nat.add_assoc]
 rw [e1, h1, Nat.add_mul, Nat.add_assoc, h2]
 omega
theorem two (b u d1 d0 y q1 q0 r1 r0 : Nat) (h1 : u * b + d1 = q1 * y + r1) (h2 : r1 * b + d0 = q0 * y + r0) (hr : r0 < y) :
  (u * (b * b) + (d1 * b + d0)) / y = q1 * b + q0 ∧ (u * (b * b) + (d1 * b + d0)) % y = r0 := by
 have hpos : 0 < y := by omega
 have e : u * (b * b) + (d1 * b + d0) = r0 + y * (q1 * b + q0) := by
  have e1 : y * (q1 * b + q0) = (q1 * y) * b + q0 * y := by
   rw [Nat.mul_add, ← Nat.mul_assoc, Nat.mul_comm y q1, Nat.mul_comm y q0]
  rw [e1]
  exact two_b b u d1 d0 _ _ r1 r0 h1 h2
 rw [e]
 exact ⟨by rw [Nat.add_mul_div_left _ _ hpos, Nat.div_eq_of_lt hr, Nat.zero_add], by rw [Nat.add_mul_mod_self_left, Nat.mod_eq_of_lt hr]⟩
end Dv
end Go.Proofs.YtklehbmghjcmaaaGreatDoor
namespace Go.Proofs.YtklehbmghjcmaaaGreatDoor
open Go.RowKit
end Go.Proofs.YtklehbmghjcmaaaGreatDoor
namespace Go.Proofs.YtklehbmghjcmaaaGreatDoor
open Go.RowKit
end Go.Proofs.YtklehbmghjcmaaaGreatDoor
namespace Go.Proofs.YtklehbmghjcmaaaGreatDoor
open Go.RowKit
theorem fdiv_pp (p n : Nat) : (p : Int).fdiv (n : Int) = ((p / n : Nat) : Int) := by
 rw [Int.fdiv_eq_ediv_of_nonneg _ (by omega), Int.natCast_ediv]
theorem fdiv_np (p n : Nat) (hn : 0 < n) : (-(p : Int)).fdiv (n : Int) = if p % n = 0 then -((p / n : Nat) : Int) else -((p / n : Nat) : Int) - 1 := by
 rw [Int.fdiv_eq_ediv_of_nonneg _ (by omega)]
 have e := Nat.div_add_mod p n
 have l := Nat.mod_lt p hn
 have e' : (n : Int) * ((p / n : Nat) : Int) + ((p % n : Nat) : Int) = (p : Int) := by rw [← Int.natCast_mul, ← Int.natCast_add, e]
 by_cases h : p % n = 0
 ·rw [if_pos h]
  refine ((Int.ediv_emod_unique (r := 0) (by omega)).2 ⟨?_, by omega, by omega⟩).1
  rw [h] at e'
  rw [Int.mul_neg]
  omega
 ·rw [if_neg h]
  refine ((Int.ediv_emod_unique (r := (n : Int) - ((p % n : Nat) : Int)) (by omega)).2 ⟨?_, by omega, by omega⟩).1
  rw [Int.mul_sub, Int.mul_neg]
  omega
theorem scale_math (a b c : Int) (p n : Nat) (hp : a.natAbs * b.natAbs = p) (hn : c.natAbs = n) (hc : c ≠ 0) :
  (a * b).fdiv c = if ((decide (a < 0) != decide (b < 0)) != decide (c < 0)) = true then (if p % n = 0 then -((p / n : Nat) : Int) else -((p / n : Nat) : Int) - 1) else ((p / n : Nat) : Int) := by
 have hs := sgn_of a b
 rw [hp] at hs
 rw [← hs]
 have hn0 : 0 < n := by omega
 generalize (decide (a < 0) != decide (b < 0)) = X
 by_cases h : c < 0
 ·have ec : c = -(n : Int) := by omega
  rw [ec]
  have hd : decide (-(n : Int) < 0) = true := by rw [decide_eq_true_eq]; omega
  rw [hd]
  cases X
  ·show (p : Int).fdiv (-(n : Int)) = _
   rw [show (p : Int).fdiv (-(n : Int)) = (-(p : Int)).fdiv (n : Int) by rw [← Int.neg_fdiv_neg (p : Int) (-(n : Int)), Int.neg_neg], fdiv_np p n hn0]
   rfl
  ·show (-(p : Int)).fdiv (-(n : Int)) = _
   rw [Int.neg_fdiv_neg, fdiv_pp]
   rfl
 ·have ec : c = (n : Int) := by omega
  rw [ec]
  have hd : decide ((n : Int) < 0) = false := by rw [decide_eq_false_iff_not]; omega
  rw [hd]
  cases X
  ·show (p : Int).fdiv (n : Int) = _
   rw [fdiv_pp]
   rfl
  ·show (-(p : Int)).fdiv (n : Int) = _
   rw [fdiv_np p n hn0]
   rfl
end Go.Proofs.YtklehbmghjcmaaaGreatDoor
namespace Go.Proofs.YtklehbmghjcmaaaGreatDoor
open Go.RowKit
end Go.Proofs.YtklehbmghjcmaaaGreatDoor
namespace Go.Proofs.YtklehbmghjcmaaaGreatDoor.Cvl
open Go.RowKit
theorem ret_int {k : IntKind} {a b : Int} (h : a = b) : Ending.returned (.int k a) = zr (.int k b) := by rw [h]
theorem ret_bool {a b : Bool} (h : a = b) : Ending.returned (.bool a) = zr (.bool b) := by rw [h]
theorem mod_up {a b : Int} (hb : 0 < b) (h : a.tmod b < 0) : a % b = a.tmod b + b := by
  have e := (Nm.down (a := a) (b := b) (by omega) (by omega) (by omega)).2
  rw [Int.fmod_eq_emod_of_nonneg _ (by omega)] at e
  exact e
theorem mod_same {a b : Int} (hb : 0 < b) (h : ¬ a.tmod b < 0) : a % b = a.tmod b := by
  have e := (Nm.keep (a := a) (b := b) (by omega) (by omega)).2
  rw [Int.fmod_eq_emod_of_nonneg _ (by omega)] at e
  exact e
theorem div_down {a b : Int} (hb : 0 < b) (h : a.tmod b < 0) : a / b = a.tdiv b - 1 := by
  have e := (Nm.down (a := a) (b := b) (by omega) (by omega) (by omega)).1
  rw [Int.fdiv_eq_ediv_of_nonneg _ (by omega)] at e
  exact e
theorem div_same {a b : Int} (hb : 0 < b) (h : ¬ a.tmod b < 0) : a / b = a.tdiv b := by
  have e := (Nm.keep (a := a) (b := b) (by omega) (by omega)).1
  rw [Int.fdiv_eq_ediv_of_nonneg _ (by omega)] at e
  exact e
theorem tz (y k : Int) (hk : 0 < k) : (y.tmod k == 0) = (y % k == 0) := by
  rw [Bool.eq_iff_iff, beq_iff_eq, beq_iff_eq]
  exact ⟨fun h => Int.emod_eq_zero_of_dvd (Int.dvd_of_tmod_eq_zero h), fun h => Int.tmod_eq_zero_of_dvd (Int.dvd_of_emod_eq_zero h)⟩
theorem rmod_any (a b : Int) (hb : 0 < b) (hb2 : b ≤ 1000000) (w : World) :
    Calls Tryz.prog 112 #[vi ki a, vi ki b] w fun e w' => e = zr (vi ki (a % b)) ∧ w' = w := by
  have bd := Nm.tmod_bd (a := a) (b := b) (by omega)
  have h0 : ¬ b = 0 := by omega
  by_cases h : a.tmod b < 0
  · have hq : Hid (a % b = a.tmod b + b) := mod_up hb h
    have l1 : -1000000 ≤ a.tmod b := by omega
    clear bd
    go_enter Tryz.func112, Tryz.ntmps112
    go_wp2
    go_ret
    exact ⟨ret_int hq.out.symm, rfl⟩
  · have hq : Hid (a % b = a.tmod b) := mod_same hb h
    clear bd
    go_enter Tryz.func112, Tryz.ntmps112
    go_wp2
    go_ret
    exact ⟨ret_int hq.out.symm, rfl⟩
theorem rdiv_any (a b : Int) (h1 : -9223372036854775808 ≤ a) (h2 : a ≤ 9223372036854775807) (hb : 2 ≤ b) (hb2 : b ≤ 1000000) (w : World) :
    Calls Tryz.prog 148 #[vi ki a, vi ki b] w fun e w' => e = zr (vi ki (a / b)) ∧ w' = w := by
  have bd := Nm.tdiv_half (a := a) (b := b) h1 h2 (by omega)
  obtain ⟨q1, q2⟩ := bd
  have h0 : ¬ b = 0 := by omega
  have hw : wrap64 (a.tdiv b) = a.tdiv b := by unfold wrap64; omega
  by_cases h : a.tmod b < 0
  · have hq : Hid (a / b = a.tdiv b - 1) := div_down (by omega) h
    go_enter Tryz.func148, Tryz.ntmps148
    go_wp2
    go_ret
    exact ⟨ret_int hq.out.symm, rfl⟩
  · have hq : Hid (a / b = a.tdiv b) := div_same (by omega) h
    go_enter Tryz.func148, Tryz.ntmps148
    go_wp2
    go_ret
    exact ⟨ret_int hq.out.symm, rfl⟩
theorem leap_of (y : Int) (a b c : Bool) (h4 : (y % 4 == 0) = a) (h100 : (y % 100 == 0) = b) (h400 : (y % 400 == 0) = c) : Cv.leap y = (a && (!b || c)) := by
  unfold Cv.leap bne; rw [h4, h100, h400]
theorem c400 (y : Int) (h4 : (y % 4 == 0) = false) : (y % 400 == 0) = false := by
  rw [beq_eq_false_iff_ne] at *; omega
theorem leap_any (y : Int) (w : World) :
    Calls Tryz.prog 204 #[vi ki y] w fun e w' => e = zr (.bool (Cv.leap y)) ∧ w' = w := by
  have t4 := tz y 4 (by decide)
  have t100 := tz y 100 (by decide)
  have t400 := tz y 400 (by decide)
  cases h4 : (y % 4 == 0) <;> cases h100 : (y % 100 == 0) <;> cases h400 : (y % 400 == 0)
  all_goals
    have hl : Hid (Cv.leap y = _) := leap_of y _ _ _ h4 h100 h400
    rw [h4] at t4
    rw [h100] at t100
    rw [h400] at t400
    have n100 : (y.tmod 100 != 0) = !(y.tmod 100 == 0) := rfl
    rw [t100] at n100
    have cc := c400 y
    go_enter Tryz.func204, Tryz.ntmps204
    go_wp2
    go_ret
    first
      | exact ⟨ret_bool (by rw [hl.out]; rfl), rfl⟩
      | exact absurd (cc h4) (by rw [h400]; decide)
end Go.Proofs.YtklehbmghjcmaaaGreatDoor.Cvl
namespace Go.Proofs.YtklehbmghjcmaaaGreatDoor.Cvl
open Go.RowKit
theorem rleap_any (y : Int) (w : World) :
    Calls Tryz.prog 149 #[vi ki y] w fun e w' => e = zr (.bool (Cv.leap y)) ∧ w' = w := by
  cases h4 : (y % 4 == 0) <;> cases h100 : (y % 100 == 0) <;> cases h400 : (y % 400 == 0)
  all_goals
    have hl : Hid (Cv.leap y = _) := leap_of y _ _ _ h4 h100 h400
    have n100 : (y % 100 != 0) = !(y % 100 == 0) := rfl
    rw [h100] at n100
    go_enter Tryz.func149, Tryz.ntmps149
    go_wp2_with (go_at_call 112; refine (rmod_any _ _ (by decide) (by decide) _).mono ?_; rintro e w' ⟨rfl, rfl⟩)
    go_ret
    exact ⟨ret_bool (by rw [hl.out]; rfl), rfl⟩
def tabL : List Int := [31, 28, 31, 30, 31, 30, 31, 31, 30, 31, 30, 31]
def Lens (w : World) : Prop := ∀ i, i < 12 → w.cell? ⟨1, i, none⟩ = some (vi ki (tabL.getD i 0))
theorem tab_len (y m : Int) (h1 : 1 ≤ m) (h2 : m ≤ 12) (h : m ≠ 2 ∨ Cv.leap y = false) : tabL.getD (m.toNat - 1) 0 = Cv.len y m := by
  rcases Cv.twelve h1 h2 with rfl | rfl | rfl | rfl | rfl | rfl | rfl | rfl | rfl | rfl | rfl | rfl
  · rfl
  · have e : Cv.leap y = false := by rcases h with h | h; exact absurd rfl h; exact h
    have : Cv.lp y = 0 := by unfold Cv.lp; rw [e]; rfl
    show (28 : Int) = Cv.len y 2
    simp [Cv.len, this]
  all_goals rfl
theorem len_leap (y : Int) (h : Cv.leap y = true) : Cv.len y 2 = 29 := by
  have : Cv.lp y = 1 := by unfold Cv.lp; rw [h]; rfl
  simp [Cv.len, this]
theorem len_flat (y : Int) (h : Cv.leap y = false) : Cv.len y 2 = 28 := by
  have : Cv.lp y = 0 := by unfold Cv.lp; rw [h]; rfl
  simp [Cv.len, this]
theorem len_any (y m : Int) (w : World) (hw : Lens w) :
    Calls Tryz.prog 172 #[vi ki y, vi ki m] w fun e w' => e = zr (vi ki (Cv.len y m)) ∧ w' = w := by
  by_cases h1 : m < 1
  · have hl : Hid (Cv.len y m = 0) := Cv.len_out y m (.inl h1)
    go_enter Tryz.func172, Tryz.ntmps172
    go_wp2
    go_ret
    exact ⟨ret_int hl.out.symm, rfl⟩
  · by_cases h2 : 12 < m
    · have hl : Hid (Cv.len y m = 0) := Cv.len_out y m (.inr h2)
      go_enter Tryz.func172, Tryz.ntmps172
      go_wp2
      go_ret
      exact ⟨ret_int hl.out.symm, rfl⟩
    · by_cases h3 : m = 2
      · subst h3
        cases hl : Cv.leap y
        · have e : Hid (Cv.len y 2 = 28) := len_flat y hl
          have hc : w.cell? ⟨1, 1, none⟩ = some (vi ki 28) := hw 1 (by decide)
          go_enter Tryz.func172, Tryz.ntmps172
          go_wp2_with (go_at_call 204; refine (leap_any _ _).mono ?_; rintro e w' ⟨rfl, rfl⟩)
          go_ret
          exact ⟨ret_int e.out.symm, rfl⟩
        · have e : Hid (Cv.len y 2 = 29) := len_leap y hl
          go_enter Tryz.func172, Tryz.ntmps172
          go_wp2_with (go_at_call 204; refine (leap_any _ _).mono ?_; rintro e w' ⟨rfl, rfl⟩)
          go_ret
          exact ⟨ret_int e.out.symm, rfl⟩
      · have hb : (m == 2) = false := by rw [beq_eq_false_iff_ne]; exact h3
        have e : Hid (tabL.getD (m.toNat - 1) 0 = Cv.len y m) := tab_len y m (by omega) (by omega) (.inl h3)
        have hc : w.cell? ⟨1, m.toNat - 1, none⟩ = some (vi ki (tabL.getD (m.toNat - 1) 0)) := hw (m.toNat - 1) (by omega)
        generalize tabL.getD (m.toNat - 1) 0 = t at *
        go_enter Tryz.func172, Tryz.ntmps172
        go_wp2
        go_ret
        exact ⟨ret_int e.out, rfl⟩
theorem rlen_any (y m : Int) (w : World) :
    Calls Tryz.prog 150 #[vi ki y, vi ki m] w fun e w' => e = zr (vi ki (Cv.len y m)) ∧ w' = w := by
  by_cases h : 1 ≤ m ∧ m ≤ 12
  · rcases Cv.twelve h.1 h.2 with rfl | rfl | rfl | rfl | rfl | rfl | rfl | rfl | rfl | rfl | rfl | rfl
    case inr.inl =>
      cases hl : Cv.leap y
      · have e : Hid (Cv.len y 2 = 28) := len_flat y hl
        go_enter Tryz.func150, Tryz.ntmps150
        go_wp2_with (go_at_call 149; refine (rleap_any _ _).mono ?_; rintro e w' ⟨rfl, rfl⟩)
        go_ret
        exact ⟨ret_int e.out.symm, rfl⟩
      · have e : Hid (Cv.len y 2 = 29) := len_leap y hl
        go_enter Tryz.func150, Tryz.ntmps150
        go_wp2_with (go_at_call 149; refine (rleap_any _ _).mono ?_; rintro e w' ⟨rfl, rfl⟩)
        go_ret
        exact ⟨ret_int e.out.symm, rfl⟩
    all_goals
      clear h
      go_enter Tryz.func150, Tryz.ntmps150
      go_wp2
      go_ret
      exact ⟨ret_int rfl, rfl⟩
  · have e : Hid (Cv.len y m = 0) := Cv.len_out y m (by omega)
    have n1 : (m == 1) = false := by rw [beq_eq_false_iff_ne]; omega
    have n2 : (m == 2) = false := by rw [beq_eq_false_iff_ne]; omega
    have n3 : (m == 3) = false := by rw [beq_eq_false_iff_ne]; omega
    have n4 : (m == 4) = false := by rw [beq_eq_false_iff_ne]; omega
    have n5 : (m == 5) = false := by rw [beq_eq_false_iff_ne]; omega
    have n6 : (m == 6) = false := by rw [beq_eq_false_iff_ne]; omega
    have n7 : (m == 7) = false := by rw [beq_eq_false_iff_ne]; omega
    have n8 : (m == 8) = false := by rw [beq_eq_false_iff_ne]; omega
    have n9 : (m == 9) = false := by rw [beq_eq_false_iff_ne]; omega
    have n10 : (m == 10) = false := by rw [beq_eq_false_iff_ne]; omega
    have n11 : (m == 11) = false := by rw [beq_eq_false_iff_ne]; omega
    have n12 : (m == 12) = false := by rw [beq_eq_false_iff_ne]; omega
    clear h
    go_enter Tryz.func150, Tryz.ntmps150
    go_wp2
    go_ret
    exact ⟨ret_int e.out.symm, rfl⟩
def right (y m d : Int) : Bool := decide (-4718 ≤ y ∧ y ≤ 294282 ∧ 1 ≤ d ∧ d ≤ Cv.len y m)
theorem right_no {y m d : Int} (h : ¬ (-4718 ≤ y ∧ y ≤ 294282 ∧ 1 ≤ d ∧ d ≤ Cv.len y m)) : right y m d = false := decide_eq_false h
theorem right_yes {y m d : Int} (h : -4718 ≤ y ∧ y ≤ 294282 ∧ 1 ≤ d ∧ d ≤ Cv.len y m) : right y m d = true := decide_eq_true h
theorem right_mon {y m d : Int} (h : -4718 ≤ y ∧ y ≤ 294282 ∧ 1 ≤ d ∧ d ≤ Cv.len y m) : 1 ≤ m ∧ m ≤ 12 := by
  by_cases g : m < 1 ∨ 12 < m
  · have := Cv.len_out y m g; omega
  · omega
theorem right_any (y m d : Int) (w : World) (hw : Lens w) :
    Calls Tryz.prog 213 #[vi ki y, vi ki m, vi ki d] w fun e w' => e = zr (.bool (right y m d)) ∧ w' = w := by
  have H1 : Hid (∀ m, Calls Tryz.prog 172 #[vi ki y, vi ki m] w fun e w' => e = zr (vi ki (Cv.len y m)) ∧ w' = w) := fun m => len_any y m w hw
  by_cases h1 : -4718 ≤ y
  · by_cases h2 : y ≤ 294282
    · by_cases h3 : 1 ≤ d
      · by_cases h4 : d ≤ Cv.len y m
        · have e : Hid (right y m d = true) := right_yes ⟨h1, h2, h3, h4⟩
          go_enter Tryz.func213, Tryz.ntmps213
          go_wp2_with fail
          refine (H1.out _).mono ?_
          rintro e w' ⟨rfl, rfl⟩
          go_wp2
          go_ret
          exact ⟨ret_bool e.out.symm, rfl⟩
        · have e : Hid (right y m d = false) := right_no (fun h => h4 h.2.2.2)
          go_enter Tryz.func213, Tryz.ntmps213
          go_wp2_with fail
          refine (H1.out _).mono ?_
          rintro e w' ⟨rfl, rfl⟩
          go_wp2
          go_ret
          exact ⟨ret_bool (by rw [e.out]; exact decide_eq_false (by omega)), rfl⟩
      · have e : Hid (right y m d = false) := right_no (fun h => h3 h.2.2.1)
        go_enter Tryz.func213, Tryz.ntmps213
        go_wp2
        go_ret
        exact ⟨ret_bool e.out.symm, rfl⟩
    · have e : Hid (right y m d = false) := right_no (fun h => h2 h.2.1)
      go_enter Tryz.func213, Tryz.ntmps213
      go_wp2
      go_ret
      exact ⟨ret_bool e.out.symm, rfl⟩
  · have e : Hid (right y m d = false) := right_no (fun h => h1 h.1)
    go_enter Tryz.func213, Tryz.ntmps213
    go_wp2
    go_ret
    exact ⟨ret_bool e.out.symm, rfl⟩
theorem rright_any (y m d : Int) (w : World) :
    Calls Tryz.prog 159 #[vi ki y, vi ki m, vi ki d] w fun e w' => e = zr (.bool (right y m d)) ∧ w' = w := by
  have H1 : Hid (∀ m, Calls Tryz.prog 150 #[vi ki y, vi ki m] w fun e w' => e = zr (vi ki (Cv.len y m)) ∧ w' = w) := fun m => rlen_any y m w
  by_cases h1 : -4718 ≤ y
  · by_cases h2 : y ≤ 294282
    · by_cases h5 : 1 ≤ m
      · by_cases h6 : m ≤ 12
        · by_cases h3 : 1 ≤ d
          · by_cases h4 : d ≤ Cv.len y m
            · have e : Hid (right y m d = true) := right_yes ⟨h1, h2, h3, h4⟩
              go_enter Tryz.func159, Tryz.ntmps159
              go_wp2_with fail
              refine (H1.out _).mono ?_
              rintro e w' ⟨rfl, rfl⟩
              go_wp2
              go_ret
              exact ⟨ret_bool e.out.symm, rfl⟩
            · have e : Hid (right y m d = false) := right_no (fun h => h4 h.2.2.2)
              go_enter Tryz.func159, Tryz.ntmps159
              go_wp2_with fail
              refine (H1.out _).mono ?_
              rintro e w' ⟨rfl, rfl⟩
              go_wp2
              go_ret
              exact ⟨ret_bool (by rw [e.out]; exact decide_eq_false (by omega)), rfl⟩
          · have e : Hid (right y m d = false) := right_no (fun h => h3 h.2.2.1)
            go_enter Tryz.func159, Tryz.ntmps159
            go_wp2
            go_ret
            exact ⟨ret_bool e.out.symm, rfl⟩
        · have e : Hid (right y m d = false) := right_no (fun h => h6 (right_mon h).2)
          go_enter Tryz.func159, Tryz.ntmps159
          go_wp2
          go_ret
          exact ⟨ret_bool e.out.symm, rfl⟩
      · have e : Hid (right y m d = false) := right_no (fun h => h5 (right_mon h).1)
        go_enter Tryz.func159, Tryz.ntmps159
        go_wp2
        go_ret
        exact ⟨ret_bool e.out.symm, rfl⟩
    · have e : Hid (right y m d = false) := right_no (fun h => h2 h.2.1)
      go_enter Tryz.func159, Tryz.ntmps159
      go_wp2
      go_ret
      exact ⟨ret_bool e.out.symm, rfl⟩
  · have e : Hid (right y m d = false) := right_no (fun h => h1 h.1)
    go_enter Tryz.func159, Tryz.ntmps159
    go_wp2
    go_ret
    exact ⟨ret_bool e.out.symm, rfl⟩
theorem new_any (y : Int) (h1 : -4800 ≤ y) (h2 : y ≤ 1000000) (w : World) :
    Calls Tryz.prog 171 #[vi ki y] w fun e w' => e = zr (vi ki (Cv.S y)) ∧ w' = w := by
  go_enter Tryz.func171, Tryz.ntmps171
  go_wp2
  go_ret
  exact ⟨ret_int (by unfold Cv.S; omega), rfl⟩
theorem S_part (y k : Int) : Cv.S (2000 + (y - 2000) % 400) = Cv.S y - (y - 2000) / 400 * 146097 := by
  have := Cv.S_cycle (2000 + (y - 2000) % 400) ((y - 2000) / 400)
  rw [show 2000 + (y - 2000) % 400 + 400 * ((y - 2000) / 400) = y by omega] at this
  omega
theorem S_2000 : Cv.S 2000 = 0 := by decide
theorem S_bd (y : Int) (h1 : -1000000 ≤ y) (h2 : y ≤ 1000000) : -1000000000 ≤ Cv.S y ∧ Cv.S y ≤ 1000000000 := by unfold Cv.S; omega
theorem lp_true {y : Int} (h : Cv.leap y = true) : Cv.lp y = 1 := by unfold Cv.lp; rw [h]; rfl
theorem lp_false {y : Int} (h : Cv.leap y = false) : Cv.lp y = 0 := by unfold Cv.lp; rw [h]; rfl
theorem start_any (y : Int) (h1 : -1000000 ≤ y) (h2 : y ≤ 1000000) (w : World) :
    Calls Tryz.prog 188 #[vi ki y] w fun e w' => e = zr (vi ki (Cv.S y)) ∧ w' = w := by
  have hp : Hid (Cv.S (2000 + (y - 2000) % 400) = Cv.S y - (y - 2000) / 400 * 146097) := S_part y 0
  have H1 : Hid (∀ w : World, Calls Tryz.prog 148 #[vi ki (y - 2000), vi ki 400] w fun e w' => e = zr (vi ki ((y - 2000) / 400)) ∧ w' = w) := fun w => rdiv_any (y - 2000) 400 (by omega) (by omega) (by decide) (by decide) w
  have H2 : Hid (∀ w : World, Calls Tryz.prog 112 #[vi ki (y - 2000), vi ki 400] w fun e w' => e = zr (vi ki ((y - 2000) % 400)) ∧ w' = w) := fun w => rmod_any (y - 2000) 400 (by decide) (by decide) w
  have c1 : -3000 ≤ (y - 2000) / 400 := by omega
  have c2 : (y - 2000) / 400 ≤ 3000 := by omega
  have m1 : 0 ≤ (y - 2000) % 400 := by omega
  have m2 : (y - 2000) % 400 < 400 := by omega
  generalize (y - 2000) / 400 = c at *
  generalize (y - 2000) % 400 = m at *
  go_enter Tryz.func188, Tryz.ntmps188
  go_wp2_with fail
  refine (H1.out _).mono ?_
  rintro e w1 ⟨rfl, rfl⟩
  go_wp2_with fail
  go_loop [3, 4] (fun n i => ∃ k : Int, 0 ≤ k ∧ k ≤ m ∧ i = vi ki k ∧ n = vi ki (c * 146097 + Cv.S (2000 + k))) (fun _ i => (m - intOf i).toNat)
  case atStart => exact ⟨0, by omega, m1, rfl, by rw [show (2000 : Int) + 0 = 2000 by omega, S_2000]; go_num⟩
  case round =>
    obtain ⟨k, k1, k2, rfl, rfl⟩ := hrel
    have hS := Cv.S_succ (2000 + k)
    obtain ⟨s1, s2⟩ := S_bd (2000 + k) (by omega) (by omega)
    have HS : Hid (Cv.S (2000 + k + 1) = Cv.S (2000 + k) + 365 + Cv.lp (2000 + k)) := hS
    clear hS
    by_cases hlt : k < m
    · cases hl : Cv.leap (2000 + k)
      · have hp0 : Hid (Cv.lp (2000 + k) = 0) := lp_false hl
        go_wp2_with (first | (go_at_call 112; refine (H2.out _).mono ?_; rintro e w' ⟨rfl, rfl⟩) | (go_at_call 149; refine (rleap_any _ _).mono ?_; rintro e w' ⟨rfl, rfl⟩))
        go_round
        case rel => exact ⟨k + 1, by omega, by omega, rfl, by rw [show 2000 + (k + 1) = 2000 + k + 1 by omega, HS.out, hp0.out]; go_num⟩
        case measure => simp [intOf]; omega
      · have hp1 : Hid (Cv.lp (2000 + k) = 1) := lp_true hl
        go_wp2_with (first | (go_at_call 112; refine (H2.out _).mono ?_; rintro e w' ⟨rfl, rfl⟩) | (go_at_call 149; refine (rleap_any _ _).mono ?_; rintro e w' ⟨rfl, rfl⟩))
        go_round
        case rel => exact ⟨k + 1, by omega, by omega, rfl, by rw [show 2000 + (k + 1) = 2000 + k + 1 by omega, HS.out, hp1.out]; go_num⟩
        case measure => simp [intOf]; omega
    · have ek : Hid (k = m) := by show k = m; omega
      go_wp2_with (go_at_call 112; refine (H2.out _).mono ?_; rintro e w' ⟨rfl, rfl⟩)
      go_ret
      exact ⟨ret_int (by have := hp.out; rw [← ek.out] at this; omega), rfl⟩
end Go.Proofs.YtklehbmghjcmaaaGreatDoor.Cvl
namespace Go.Proofs.YtklehbmghjcmaaaGreatDoor.Cvl
open Go.RowKit
theorem rday_any (y m d : Int) (h1 : -1000000 ≤ y) (h2 : y ≤ 1000000) (m1 : 1 ≤ m) (m2 : m ≤ 12) (d1 : 1 ≤ d) (d2 : d ≤ 31) (w : World) :
    Calls Tryz.prog 146 #[vi ki y, vi ki m, vi ki d] w fun e w' => e = zr (vi ki (Cv.S y + Cv.cum y m + d - 1)) ∧ w' = w := by
  obtain ⟨s1, s2⟩ := S_bd y h1 h2
  go_enter Tryz.func146, Tryz.ntmps146
  go_wp2_with fail
  refine (start_any y h1 h2 _).mono ?_
  rintro e w1 ⟨rfl, rfl⟩
  go_wp2_with fail
  go_loop [7, 8] (fun n i => ∃ k : Int, 1 ≤ k ∧ k ≤ m ∧ i = vi ki k ∧ n = vi ki (Cv.S y + Cv.cum y k + d - 1)) (fun _ i => (m - intOf i).toNat)
  case atStart => exact ⟨1, by omega, m1, rfl, by rw [Cv.cum_one]; go_num⟩
  case round =>
    obtain ⟨k, k1, k2, rfl, rfl⟩ := hrel
    obtain ⟨c1, c2⟩ := Cv.cum_bd y k
    by_cases hlt : k < m
    · have hc : Hid (Cv.cum y (k + 1) = Cv.cum y k + Cv.len y k) := Cv.cum_succ y k k1 (by omega)
      obtain ⟨l1, l2⟩ := Cv.len_bd y k
      go_wp2_with (go_at_call 150; refine (rlen_any _ _ _).mono ?_; rintro e w' ⟨rfl, rfl⟩)
      go_round
      case rel => exact ⟨k + 1, by omega, by omega, rfl, by rw [hc.out]; go_num⟩
      case measure => simp [intOf]; omega
    · have ek : Hid (k = m) := by show k = m; omega
      go_wp2
      go_ret
      exact ⟨ret_int (by rw [← ek.out]), rfl⟩
theorem S_first : Cv.S (-4718) = -2453698 := by decide
theorem S_last : Cv.S 294283 = 106754174 := by decide
theorem first_any (w : World) : Calls Tryz.prog 202 #[] w fun e w' => e = zr (vi ki (-2453698)) ∧ w' = w := by
  have H1 : Hid (∀ w : World, Calls Tryz.prog 171 #[vi ki (-4718)] w fun e w' => e = zr (vi ki (-2453698)) ∧ w' = w) := by
    intro w; rw [← S_first]; exact new_any (-4718) (by decide) (by decide) w
  go_enter Tryz.func202, Tryz.ntmps202
  go_wp2_with fail
  refine (H1.out _).mono ?_
  rintro e w' ⟨rfl, rfl⟩
  go_wp2
  go_ret
  exact ⟨rfl, rfl⟩
theorem last_any (w : World) : Calls Tryz.prog 203 #[] w fun e w' => e = zr (vi ki 106754173) ∧ w' = w := by
  have H1 : Hid (∀ w : World, Calls Tryz.prog 171 #[vi ki 294283] w fun e w' => e = zr (vi ki 106754174) ∧ w' = w) := by
    intro w; rw [← S_last]; exact new_any 294283 (by decide) (by decide) w
  go_enter Tryz.func203, Tryz.ntmps203
  go_wp2_with fail
  refine (H1.out _).mono ?_
  rintro e w' ⟨rfl, rfl⟩
  go_wp2
  go_ret
  exact ⟨rfl, rfl⟩
theorem d_first : Cv.S (-4718) + Cv.cum (-4718) 1 + 1 - 1 = -2453698 := by decide
theorem d_last : Cv.S 294282 + Cv.cum 294282 12 + 31 - 1 = 106754173 := by decide
theorem rfirst_any (w : World) : Calls Tryz.prog 105 #[] w fun e w' => e = zr (vi ki (-2453698)) ∧ w' = w := by
  have H1 : Hid (∀ w : World, Calls Tryz.prog 146 #[vi ki (-4718), vi ki 1, vi ki 1] w fun e w' => e = zr (vi ki (-2453698)) ∧ w' = w) := by
    intro w; rw [← d_first]; exact rday_any (-4718) 1 1 (by decide) (by decide) (by decide) (by decide) (by decide) (by decide) w
  go_enter Tryz.func105, Tryz.ntmps105
  go_wp2_with fail
  refine (H1.out _).mono ?_
  rintro e w' ⟨rfl, rfl⟩
  go_wp2
  go_ret
  exact ⟨rfl, rfl⟩
theorem rlast_any (w : World) : Calls Tryz.prog 189 #[] w fun e w' => e = zr (vi ki 106754173) ∧ w' = w := by
  have H1 : Hid (∀ w : World, Calls Tryz.prog 146 #[vi ki 294282, vi ki 12, vi ki 31] w fun e w' => e = zr (vi ki 106754173) ∧ w' = w) := by
    intro w; rw [← d_last]; exact rday_any 294282 12 31 (by decide) (by decide) (by decide) (by decide) (by decide) (by decide) w
  go_enter Tryz.func189, Tryz.ntmps189
  go_wp2_with fail
  refine (H1.out _).mono ?_
  rintro e w' ⟨rfl, rfl⟩
  go_wp2
  go_ret
  exact ⟨rfl, rfl⟩
def can (n : Int) : Bool := decide (-2453698 ≤ n ∧ n ≤ 106754173)
theorem can_yes {n : Int} (h1 : -2453698 ≤ n) (h2 : n ≤ 106754173) : can n = true := decide_eq_true ⟨h1, h2⟩
theorem can_no {n : Int} (h : n < -2453698 ∨ 106754173 < n) : can n = false := decide_eq_false (by omega)
theorem can_any (n : Int) (w : World) : Calls Tryz.prog 169 #[vi ki n] w fun e w' => e = zr (.bool (can n)) ∧ w' = w := by
  by_cases h1 : -2453698 ≤ n
  · by_cases h2 : n ≤ 106754173
    · have e : Hid (can n = true) := can_yes h1 h2
      go_enter Tryz.func169, Tryz.ntmps169
      go_wp2_with (first | (go_at_call 202; refine (first_any _).mono ?_; rintro e w' ⟨rfl, rfl⟩) | (go_at_call 203; refine (last_any _).mono ?_; rintro e w' ⟨rfl, rfl⟩))
      go_ret
      exact ⟨ret_bool e.out.symm, rfl⟩
    · have e : Hid (can n = false) := can_no (by omega)
      go_enter Tryz.func169, Tryz.ntmps169
      go_wp2_with (first | (go_at_call 202; refine (first_any _).mono ?_; rintro e w' ⟨rfl, rfl⟩) | (go_at_call 203; refine (last_any _).mono ?_; rintro e w' ⟨rfl, rfl⟩))
      go_ret
      exact ⟨ret_bool (by rw [e.out]; first | rfl | exact decide_eq_false (by omega)), rfl⟩
  · have e : Hid (can n = false) := can_no (by omega)
    go_enter Tryz.func169, Tryz.ntmps169
    go_wp2_with (first | (go_at_call 202; refine (first_any _).mono ?_; rintro e w' ⟨rfl, rfl⟩) | (go_at_call 203; refine (last_any _).mono ?_; rintro e w' ⟨rfl, rfl⟩))
    go_ret
    exact ⟨ret_bool (by rw [e.out]), rfl⟩
theorem rcan_any (n : Int) (w : World) : Calls Tryz.prog 147 #[vi ki n] w fun e w' => e = zr (.bool (can n)) ∧ w' = w := by
  by_cases h1 : -2453698 ≤ n
  · by_cases h2 : n ≤ 106754173
    · have e : Hid (can n = true) := can_yes h1 h2
      go_enter Tryz.func147, Tryz.ntmps147
      go_wp2_with (first | (go_at_call 105; refine (rfirst_any _).mono ?_; rintro e w' ⟨rfl, rfl⟩) | (go_at_call 189; refine (rlast_any _).mono ?_; rintro e w' ⟨rfl, rfl⟩))
      go_ret
      exact ⟨ret_bool e.out.symm, rfl⟩
    · have e : Hid (can n = false) := can_no (by omega)
      go_enter Tryz.func147, Tryz.ntmps147
      go_wp2_with (first | (go_at_call 105; refine (rfirst_any _).mono ?_; rintro e w' ⟨rfl, rfl⟩) | (go_at_call 189; refine (rlast_any _).mono ?_; rintro e w' ⟨rfl, rfl⟩))
      go_ret
      exact ⟨ret_bool (by rw [e.out]; first | rfl | exact decide_eq_false (by omega)), rfl⟩
  · have e : Hid (can n = false) := can_no (by omega)
    go_enter Tryz.func147, Tryz.ntmps147
    go_wp2_with (first | (go_at_call 105; refine (rfirst_any _).mono ?_; rintro e w' ⟨rfl, rfl⟩) | (go_at_call 189; refine (rlast_any _).mono ?_; rintro e w' ⟨rfl, rfl⟩))
    go_ret
    exact ⟨ret_bool (by rw [e.out]), rfl⟩
theorem guess2 (n y : Int) (h1 : -2453698 - 7 ≤ n) (h2 : n ≤ 106754173 + 7) (h3 : y = -4800 + (n + 2483649) * 400 / 146097) :
    Cv.S (y - 1) ≤ n ∧ n < Cv.S (y + 2) ∧ -4720 ≤ y ∧ y ≤ 294290 := by
  unfold Cv.S; omega
theorem yearOf_any (n y : Int) (h1 : -2453698 - 7 ≤ n) (h2 : n ≤ 106754173 + 7) (y1 : Cv.S y ≤ n) (y2 : n < Cv.S (y + 1)) (w : World) :
    Calls Tryz.prog 170 #[vi ki n] w fun e w' => e = zr (vi ki y) ∧ w' = w := by
  obtain ⟨z, hz⟩ : ∃ z, z = -4800 + (n + 2483649) * 400 / 146097 := ⟨_, rfl⟩
  obtain ⟨g1, g2, g3, g4⟩ := guess2 n z h1 h2 hz
  have e0 : Hid (z = -4800 + (n + 2483649) * 400 / 146097) := hz
  have e1 : -4800 + (n + 2483649) * 400 / 146097 = z := hz.symm
  clear hz
  by_cases a : n < Cv.S z
  · have ey : Hid (y = z - 1) := Cv.year_one y1 y2 g1 (by rw [show z - 1 + 1 = z by omega]; exact a)
    clear g1 g2 y1 y2
    go_enter Tryz.func170, Tryz.ntmps170
    go_wp2_with (go_at_call 171; refine (new_any _ (by omega) (by omega) _).mono ?_; rintro e w' ⟨rfl, rfl⟩)
    go_ret
    exact ⟨ret_int ey.out.symm, rfl⟩
  · by_cases b : Cv.S (z + 1) ≤ n
    · have ey : Hid (y = z + 1) := Cv.year_one y1 y2 b (by rw [show z + 1 + 1 = z + 2 by omega]; exact g2)
      clear g1 g2 y1 y2
      go_enter Tryz.func170, Tryz.ntmps170
      go_wp2_with (go_at_call 171; refine (new_any _ (by omega) (by omega) _).mono ?_; rintro e w' ⟨rfl, rfl⟩)
      go_ret
      exact ⟨ret_int ey.out.symm, rfl⟩
    · have ey : Hid (y = z) := Cv.year_one y1 y2 (by omega) (by omega)
      clear g1 g2 y1 y2
      go_enter Tryz.func170, Tryz.ntmps170
      go_wp2_with (go_at_call 171; refine (new_any _ (by omega) (by omega) _).mono ?_; rintro e w' ⟨rfl, rfl⟩)
      go_ret
      exact ⟨ret_int ey.out.symm, rfl⟩
end Go.Proofs.YtklehbmghjcmaaaGreatDoor.Cvl
namespace Go.Proofs.YtklehbmghjcmaaaGreatDoor.Cvl
open Go.RowKit
theorem of_right {y m d : Int} (h : right y m d = true) : -4718 ≤ y ∧ y ≤ 294282 ∧ 1 ≤ d ∧ d ≤ Cv.len y m := of_decide_eq_true h
theorem days_no (y m d : Int) (h : right y m d = false) (w : World) (hw : Lens w) :
    Calls Tryz.prog 192 #[vi ki y, vi ki m, vi ki d] w fun e w' => e = zr (.tuple #[vi ki 0, vi ki 10]) ∧ w' = w := by
  go_enter Tryz.func192, Tryz.ntmps192
  go_wp2_with (go_at_call 213; refine (right_any _ _ _ _ hw).mono ?_; rintro e w' ⟨rfl, rfl⟩)
  go_ret2
  exact ⟨rfl, rfl⟩
theorem rdays_no (y m d : Int) (h : right y m d = false) (w : World) :
    Calls Tryz.prog 114 #[vi ki y, vi ki m, vi ki d] w fun e w' => e = zr (.tuple #[vi ki 0, vi ki 10]) ∧ w' = w := by
  go_enter Tryz.func114, Tryz.ntmps114
  go_wp2_with (go_at_call 159; refine (rright_any _ _ _ _).mono ?_; rintro e w' ⟨rfl, rfl⟩)
  go_ret2
  exact ⟨rfl, rfl⟩
theorem rdays_yes (y m d : Int) (h : right y m d = true) (w : World) :
    Calls Tryz.prog 114 #[vi ki y, vi ki m, vi ki d] w fun e w' => e = zr (.tuple #[vi ki (Cv.S y + Cv.cum y m + d - 1), vi ki 0]) ∧ w' = w := by
  obtain ⟨y1, y2, d1, d2⟩ := of_right h
  obtain ⟨m1, m2⟩ := right_mon ⟨y1, y2, d1, d2⟩
  have l := (Cv.len_bd y m).2
  have H1 : Hid (∀ w : World, Calls Tryz.prog 146 #[vi ki y, vi ki m, vi ki d] w fun e w' => e = zr (vi ki (Cv.S y + Cv.cum y m + d - 1)) ∧ w' = w) := fun w => rday_any y m d (by omega) (by omega) m1 m2 d1 (by omega) w
  generalize Cv.S y + Cv.cum y m + d - 1 = n at *
  clear d2 l
  go_enter Tryz.func114, Tryz.ntmps114
  go_wp2_with (first | (go_at_call 159; refine (rright_any _ _ _ _).mono ?_; rintro e w' ⟨rfl, rfl⟩) | (go_at_call 146; refine (H1.out _).mono ?_; rintro e w' ⟨rfl, rfl⟩))
  go_ret2
  exact ⟨rfl, rfl⟩
theorem days_yes (y m d : Int) (h : right y m d = true) (w : World) (hw : Lens w) :
    Calls Tryz.prog 192 #[vi ki y, vi ki m, vi ki d] w fun e w' => e = zr (.tuple #[vi ki (Cv.S y + Cv.cum y m + d - 1), vi ki 0]) ∧ w' = w := by
  obtain ⟨y1, y2, d1, d2⟩ := of_right h
  obtain ⟨m1, m2⟩ := right_mon ⟨y1, y2, d1, d2⟩
  have l := (Cv.len_bd y m).2
  have d3 : d ≤ 31 := by omega
  obtain ⟨s1, s2⟩ := S_bd y (by omega) (by omega)
  clear d2 l
  go_enter Tryz.func192, Tryz.ntmps192
  go_wp2_with (first | (go_at_call 213; refine (right_any _ _ _ _ hw).mono ?_; rintro e w' ⟨rfl, rfl⟩) | (go_at_call 171; refine (new_any _ (by omega) (by omega) _).mono ?_; rintro e w' ⟨rfl, rfl⟩))
  go_loop [8, 19] (fun n i => ∃ k : Int, 0 ≤ k ∧ k ≤ m - 1 ∧ i = vi ki k ∧ n = vi ki (Cv.S y + Cv.cum y (k + 1))) (fun _ i => (m - intOf i).toNat)
  case atStart => exact ⟨0, by omega, by omega, rfl, by rw [show (0 : Int) + 1 = 1 by omega, Cv.cum_one]; go_num⟩
  case round =>
    obtain ⟨k, k1, k2, rfl, rfl⟩ := hrel
    obtain ⟨c1, c2⟩ := Cv.cum_bd y (k + 1)
    by_cases hlt : k < m - 1
    · have hc : Hid (Cv.cum y (k + 1 + 1) = Cv.cum y (k + 1) + Cv.len y (k + 1)) := Cv.cum_succ y (k + 1) (by omega) (by omega)
      obtain ⟨l1, l2⟩ := Cv.len_bd y (k + 1)
      go_wp2_with (go_at_call 172; refine (len_any _ _ _ hw).mono ?_; rintro e w' ⟨rfl, rfl⟩)
      go_round
      case rel => exact ⟨k + 1, by omega, by omega, rfl, by rw [hc.out]; go_num⟩
      case measure => simp [intOf]; omega
    · have ek : Hid (k + 1 = m) := by show k + 1 = m; omega
      go_wp2
      go_ret2
      exact ⟨by rw [ek.out]; rfl, rfl⟩
theorem ret_four {a b c d a' b' c' d' : Int} (h1 : a = a') (h2 : b = b') (h3 : c = c') (h4 : d = d') : Ending.returned (.tuple #[vi ki a, vi ki b, vi ki c, vi ki d]) = zr (.tuple #[vi ki a', vi ki b', vi ki c', vi ki d']) := by rw [h1, h2, h3, h4]
theorem date_no (n : Int) (h : can n = false) (w : World) :
    Calls Tryz.prog 126 #[vi ki n] w fun e w' => e = zr (.tuple #[vi ki 0, vi ki 0, vi ki 0, vi ki 10]) ∧ w' = w := by
  go_enter Tryz.func126, Tryz.ntmps126
  go_wp2_with (go_at_call 169; refine (can_any _ _).mono ?_; rintro e w' ⟨rfl, rfl⟩)
  exact bodyPost_ret (v := .tuple #[vi ki 0, vi ki 0, vi ki 0, vi ki 10]) (by simp [results, Tryz.results126, go_sem]) rfl ⟨rfl, rfl⟩
theorem rdate_no (n : Int) (h : can n = false) (w : World) :
    Calls Tryz.prog 106 #[vi ki n] w fun e w' => e = zr (.tuple #[vi ki 0, vi ki 0, vi ki 0, vi ki 10]) ∧ w' = w := by
  go_enter Tryz.func106, Tryz.ntmps106
  go_wp2_with (go_at_call 147; refine (rcan_any _ _).mono ?_; rintro e w' ⟨rfl, rfl⟩)
  exact bodyPost_ret (v := .tuple #[vi ki 0, vi ki 0, vi ki 0, vi ki 10]) (by simp [results, Tryz.results106, go_sem]) rfl ⟨rfl, rfl⟩
theorem of_can {n : Int} (h : can n = true) : -2453698 ≤ n ∧ n ≤ 106754173 := of_decide_eq_true h
theorem can_year {n y : Int} (h1 : -2453698 ≤ n) (h2 : n ≤ 106754173) (y1 : Cv.S y ≤ n) (y2 : n < Cv.S (y + 1)) : -4718 ≤ y ∧ y ≤ 294282 := by
  have a := S_first
  have b := S_last
  have c : -4718 < y + 1 := Cv.S_lt (by omega)
  have d : y < 294283 := Cv.S_lt (by omega)
  omega
theorem not_rest {n y m d k : Int} (h : Cv.Is n y m d) (k1 : 1 ≤ k) (k2 : k < m) : Cv.cum y (k + 1) ≤ n - Cv.S y := by
  obtain ⟨m1, m2, d1, d2, e⟩ := h
  have := Cv.cum_mono (y := y) (a := k + 1) (b := m) (by omega) (by omega) (by omega)
  omega
theorem is_rest {n y m d : Int} (h : Cv.Is n y m d) : n - Cv.S y < Cv.cum y (m + 1) := by
  obtain ⟨m1, m2, d1, d2, e⟩ := h
  have := Cv.cum_succ y m m1 m2
  omega
theorem date_yes (n y m d : Int) (h : can n = true) (hd : Cv.Is n y m d) (w : World) (hw : Lens w) :
    Calls Tryz.prog 126 #[vi ki n] w fun e w' => e = zr (.tuple #[vi ki y, vi ki m, vi ki d, vi ki 0]) ∧ w' = w := by
  obtain ⟨n1, n2⟩ := of_can h
  obtain ⟨a1, a2⟩ := Cv.is_year hd
  obtain ⟨y1, y2⟩ := can_year n1 n2 a1 a2
  obtain ⟨s1, s2⟩ := S_bd y (by omega) (by omega)
  have m1 := hd.1
  have m2 := hd.2.1
  have ed : Hid (n = Cv.S y + Cv.cum y m + d - 1) := hd.2.2.2.2
  have HD : Hid (Cv.Is n y m d) := hd
  have H1 : Hid (∀ w : World, Calls Tryz.prog 170 #[vi ki n] w fun e w' => e = zr (vi ki y) ∧ w' = w) := fun w => yearOf_any n y (by omega) (by omega) a1 a2 w
  clear hd a2
  go_enter Tryz.func126, Tryz.ntmps126
  go_wp2_with (first | (go_at_call 169; refine (can_any _ _).mono ?_; rintro e w' ⟨rfl, rfl⟩) | (go_at_call 170; refine (H1.out _).mono ?_; rintro e w' ⟨rfl, rfl⟩) | (go_at_call 171; refine (new_any _ (by omega) (by omega) _).mono ?_; rintro e w' ⟨rfl, rfl⟩))
  go_loop [7, 8, 18] (fun p r i => ∃ k : Int, 1 ≤ k ∧ k ≤ m ∧ i = vi ki (k - 1) ∧ p = vi ki k ∧ r = vi ki (n - Cv.S y - Cv.cum y k)) (fun p _ _ => (m - intOf p).toNat)
  case atStart => exact ⟨1, by omega, m1, rfl, rfl, by rw [Cv.cum_one]; go_num⟩
  case round =>
    obtain ⟨k, k1, k2, rfl, rfl, rfl⟩ := hrel
    obtain ⟨c1, c2⟩ := Cv.cum_bd y k
    obtain ⟨l1, l2⟩ := Cv.len_bd y k
    have hc := Cv.cum_succ y k k1 (by omega)
    by_cases hlt : k < m
    · have g := not_rest HD.out k1 hlt
      have t1 : ¬ n - Cv.S y - Cv.cum y k < Cv.len y k := by omega
      have HC : Hid (Cv.cum y (k + 1) = Cv.cum y k + Cv.len y k) := hc
      clear hc g
      go_wp2_with (go_at_call 172; refine (len_any _ _ _ hw).mono ?_; rintro e w' ⟨rfl, rfl⟩)
      go_round
      case rel => exact ⟨k + 1, by omega, by omega, by go_num, rfl, by rw [HC.out]; go_num⟩
      case measure => simp [intOf]; omega
    · obtain rfl : k = m := by omega
      have g := is_rest HD.out
      have t1 : n - Cv.S y - Cv.cum y k < Cv.len y k := by omega
      clear hc g
      by_cases h12 : k - 1 < 11
      · go_wp2_with (go_at_call 172; refine (len_any _ _ _ hw).mono ?_; rintro e w' ⟨rfl, rfl⟩)
        refine bodyPost_ret (v := .tuple #[vi ki y, vi ki k, vi ki (n - Cv.S y - Cv.cum y k + 1), vi ki 0]) (by simp [results, Tryz.results126, go_sem]) rfl ⟨?_, rfl⟩
        exact ret_four rfl rfl (by have := ed.out; omega) rfl
      · go_wp2
        refine bodyPost_ret (v := .tuple #[vi ki y, vi ki k, vi ki (n - Cv.S y - Cv.cum y k + 1), vi ki 0]) (by simp [results, Tryz.results126, go_sem]) rfl ⟨?_, rfl⟩
        exact ret_four rfl rfl (by have := ed.out; omega) rfl
theorem S_zero (c : Int) : Cv.S (2000 + c * 400) = c * 146097 := by
  have := Cv.S_cycle 2000 c
  rw [S_2000, show 2000 + 400 * c = 2000 + c * 400 by omega] at this
  omega
theorem rdate_yes (n y m d : Int) (h : can n = true) (hd : Cv.Is n y m d) (w : World) :
    Calls Tryz.prog 106 #[vi ki n] w fun e w' => e = zr (.tuple #[vi ki y, vi ki m, vi ki d, vi ki 0]) ∧ w' = w := by
  obtain ⟨n1, n2⟩ := of_can h
  obtain ⟨a1, a2⟩ := Cv.is_year hd
  obtain ⟨y1, y2⟩ := can_year n1 n2 a1 a2
  obtain ⟨s1, s2⟩ := S_bd y (by omega) (by omega)
  have m1 := hd.1
  have m2 := hd.2.1
  have ed : Hid (n = Cv.S y + Cv.cum y m + d - 1) := hd.2.2.2.2
  have HD : Hid (Cv.Is n y m d) := hd
  have A : Hid (Cv.S y ≤ n ∧ n < Cv.S (y + 1)) := ⟨a1, a2⟩
  have hz := S_zero (n / 146097)
  have hm : n % 146097 = n - Cv.S (2000 + n / 146097 * 400) := by omega
  have b0 : Cv.S (2000 + n / 146097 * 400) ≤ n := by omega
  have b1 : 2000 + n / 146097 * 400 ≤ y := by
    have := Cv.S_lt (y := 2000 + n / 146097 * 400) (z := y + 1) (by omega)
    omega
  have q1 : -20 ≤ n / 146097 := by omega
  have q2 : n / 146097 ≤ 800 := by omega
  have H1 : Hid (∀ w : World, Calls Tryz.prog 148 #[vi ki n, vi ki 146097] w fun e w' => e = zr (vi ki (n / 146097)) ∧ w' = w) := fun w => rdiv_any n 146097 (by omega) (by omega) (by decide) (by decide) w
  have H2 : Hid (∀ w : World, Calls Tryz.prog 112 #[vi ki n, vi ki 146097] w fun e w' => e = zr (vi ki (n - Cv.S (2000 + n / 146097 * 400))) ∧ w' = w) := by
    intro w; rw [← hm]; exact rmod_any n 146097 (by decide) (by decide) w
  generalize n / 146097 = c at *
  clear hd a1 a2 hz hm
  go_enter Tryz.func106, Tryz.ntmps106
  go_wp2_with (first | (go_at_call 147; refine (rcan_any _ _).mono ?_; rintro e w' ⟨rfl, rfl⟩) | (go_at_call 148; refine (H1.out _).mono ?_; rintro e w' ⟨rfl, rfl⟩) | (go_at_call 112; refine (H2.out _).mono ?_; rintro e w' ⟨rfl, rfl⟩))
  go_loop [6, 7] (fun p r => ∃ z : Int, -6000 ≤ z ∧ z ≤ y ∧ Cv.S z ≤ n ∧ p = vi ki z ∧ r = vi ki (n - Cv.S z)) (fun p _ => (y - intOf p).toNat)
  case atStart => exact ⟨2000 + c * 400, by omega, b1, b0, rfl, rfl⟩
  case round =>
    obtain ⟨z, z0, z1, z2, rfl, rfl⟩ := hrel
    clear b0 b1 q1 q2
    obtain ⟨t1, t2⟩ := S_bd z (by omega) (by omega)
    have hs := Cv.S_succ z
    by_cases hlt : z < y
    · have g : Cv.S (z + 1) ≤ n := Int.le_trans (Cv.S_mono (by omega)) A.out.1
      have HS : Hid (Cv.S (z + 1) = Cv.S z + 365 + Cv.lp z ∧ Cv.S (z + 1) ≤ n) := ⟨hs, g⟩
      cases hl : Cv.leap z
      · have e0 : Hid (Cv.lp z = 0) := lp_false hl
        have t3 : ¬ n - Cv.S z < 365 := by have := e0.out; omega
        clear hs g
        go_wp2_with (go_at_call 149; refine (rleap_any _ _).mono ?_; rintro e w' ⟨rfl, rfl⟩)
        go_round
        case rel => exact ⟨z + 1, by omega, by omega, HS.out.2, rfl, by rw [HS.out.1, e0.out]; go_num⟩
        case measure => simp [intOf]; omega
      · have e0 : Hid (Cv.lp z = 1) := lp_true hl
        have t3 : ¬ n - Cv.S z < 366 := by have := e0.out; omega
        clear hs g
        go_wp2_with (go_at_call 149; refine (rleap_any _ _).mono ?_; rintro e w' ⟨rfl, rfl⟩)
        go_round
        case rel => exact ⟨z + 1, by omega, by omega, HS.out.2, rfl, by rw [HS.out.1, e0.out]; go_num⟩
        case measure => simp [intOf]; omega
    · obtain rfl : z = y := by omega
      have g := A.out.2
      have t3 : n - Cv.S z < 365 + Cv.lp z := by omega
      have lb := Cv.lp_01 z
      cases hl : Cv.leap z
      all_goals
        first
          | (have e0 : Cv.lp z = 0 := lp_false hl; have t4 : n - Cv.S z < 365 := by omega
             clear e0)
          | (have e0 : Cv.lp z = 1 := lp_true hl; have t4 : n - Cv.S z < 366 := by omega
             clear e0)
        clear hs g t3 lb
        go_wp2_with (go_at_call 149; refine (rleap_any _ _).mono ?_; rintro e w' ⟨rfl, rfl⟩)
        go_loop [9, 7] (fun p r => ∃ k : Int, 1 ≤ k ∧ k ≤ m ∧ p = vi ki k ∧ r = vi ki (n - Cv.S z - Cv.cum z k)) (fun p _ => (m - intOf p).toNat)
        case atStart => exact ⟨1, by omega, m1, rfl, by rw [Cv.cum_one]; go_num⟩
        case round =>
          obtain ⟨k, k1, k2, rfl, rfl⟩ := hrel
          obtain ⟨c1, c2⟩ := Cv.cum_bd z k
          obtain ⟨l1, l2⟩ := Cv.len_bd z k
          have hc := Cv.cum_succ z k k1 (by omega)
          by_cases hlt : k < m
          · have g := not_rest HD.out k1 hlt
            have t5 : Cv.len z k ≤ n - Cv.S z - Cv.cum z k := by omega
            have HC : Hid (Cv.cum z (k + 1) = Cv.cum z k + Cv.len z k) := hc
            clear hc g
            go_wp2_with (go_at_call 150; refine (rlen_any _ _ _).mono ?_; rintro e w' ⟨rfl, rfl⟩)
            go_round
            case rel => exact ⟨k + 1, by omega, by omega, rfl, by rw [HC.out]; go_num⟩
            case measure => simp [intOf]; omega
          · obtain rfl : k = m := by omega
            have g := is_rest HD.out
            have t5 : ¬ Cv.len z k ≤ n - Cv.S z - Cv.cum z k := by omega
            clear hc g
            go_wp2_with (go_at_call 150; refine (rlen_any _ _ _).mono ?_; rintro e w' ⟨rfl, rfl⟩)
            refine bodyPost_ret (v := .tuple #[vi ki z, vi ki k, vi ki (n - Cv.S z - Cv.cum z k + 1), vi ki 0]) (by simp [results, Tryz.results106, go_sem]) rfl ⟨?_, rfl⟩
            exact ret_four rfl rfl (by have := ed.out; omega) rfl
end Go.Proofs.YtklehbmghjcmaaaGreatDoor.Cvl
namespace Go.Proofs.YtklehbmghjcmaaaGreatDoor.Cvl
open Go.RowKit
theorem wd_fold (n : Int) : (n % 7 + 6) % 7 = (n + 6) % 7 := by omega
theorem wd_t (n : Int) : (n.tmod 7 + 7 + 6) % 7 = (n + 6) % 7 ∧ -6 ≤ n.tmod 7 ∧ n.tmod 7 ≤ 6 := by
  have bd := Nm.tmod_bd (a := n) (b := 7) (by decide)
  by_cases h : n.tmod 7 < 0
  · have := mod_up (a := n) (b := 7) (by decide) h; omega
  · have := mod_same (a := n) (b := 7) (by decide) h; omega
theorem weekday_any (n : Int) (w : World) :
    Calls Tryz.prog 191 #[vi ki n] w fun e w' => e = zr (vi ki ((n + 6) % 7)) ∧ w' = w := by
  obtain ⟨e1, l1, l2⟩ := wd_t n
  have E1 : Hid ((n.tmod 7 + 7 + 6) % 7 = (n + 6) % 7) := e1
  clear e1
  go_enter Tryz.func191, Tryz.ntmps191
  go_wp2
  go_ret
  exact ⟨ret_int (by have := E1.out; omega), rfl⟩
theorem rweekday_any (n : Int) (w : World) :
    Calls Tryz.prog 64 #[vi ki n] w fun e w' => e = zr (vi ki ((n + 6) % 7)) ∧ w' = w := by
  have l1 : 0 ≤ n % 7 := by omega
  have l2 : n % 7 < 7 := by omega
  have E1 : Hid ((n % 7 + 6) % 7 = (n + 6) % 7) := wd_fold n
  go_enter Tryz.func64, Tryz.ntmps64
  go_wp2_with (go_at_call 112; refine (rmod_any _ _ (by decide) (by decide) _).mono ?_; rintro e w' ⟨rfl, rfl⟩)
  go_ret
  exact ⟨ret_int (by have := E1.out; omega), rfl⟩
end Go.Proofs.YtklehbmghjcmaaaGreatDoor.Cvl
namespace Go.Proofs.YtklehbmghjcmaaaGreatDoor.Cvl
open Go.RowKit
end Go.Proofs.YtklehbmghjcmaaaGreatDoor.Cvl
namespace Go.Proofs.YtklehbmghjcmaaaGreatDoor.Cvl
open Go.RowKit
def dayV (y m d : Int) : Int := if right y m d = true then Cv.S y + Cv.cum y m + d - 1 else 0
def dayE (y m d : Int) : Int := if right y m d = true then 0 else 10
theorem day_no {y m d : Int} (h : right y m d = false) : dayV y m d = 0 ∧ dayE y m d = 10 := by unfold dayV dayE; rw [h]; exact ⟨rfl, rfl⟩
theorem day_yes {y m d : Int} (h : right y m d = true) : dayV y m d = Cv.S y + Cv.cum y m + d - 1 ∧ dayE y m d = 0 := by unfold dayV dayE; rw [h]; exact ⟨rfl, rfl⟩
theorem days_any (y m d : Int) (w : World) (hw : Lens w) :
    Calls Tryz.prog 192 #[vi ki y, vi ki m, vi ki d] w fun e w' => e = zr (.tuple #[vi ki (dayV y m d), vi ki (dayE y m d)]) ∧ w' = w := by
  cases h : right y m d
  · rw [(day_no h).1, (day_no h).2]; exact days_no y m d h w hw
  · rw [(day_yes h).1, (day_yes h).2]; exact days_yes y m d h w hw
theorem rdays_any (y m d : Int) (w : World) :
    Calls Tryz.prog 114 #[vi ki y, vi ki m, vi ki d] w fun e w' => e = zr (.tuple #[vi ki (dayV y m d), vi ki (dayE y m d)]) ∧ w' = w := by
  cases h : right y m d
  · rw [(day_no h).1, (day_no h).2]; exact rdays_no y m d h w
  · rw [(day_yes h).1, (day_yes h).2]; exact rdays_yes y m d h w
def cut (d l : Int) : Int := if d ≤ l then d else l
theorem cut_le {d l : Int} (h : d ≤ l) : cut d l = d := if_pos h
theorem cut_gt {d l : Int} (h : ¬ d ≤ l) : cut d l = l := if_neg h
def shV (y m d k : Int) : Int := dayV ((12 * y + m - 1 + k) / 12) ((12 * y + m - 1 + k) % 12 + 1) (cut d (Cv.len ((12 * y + m - 1 + k) / 12) ((12 * y + m - 1 + k) % 12 + 1)))
def shE (y m d k : Int) : Int := dayE ((12 * y + m - 1 + k) / 12) ((12 * y + m - 1 + k) % 12 + 1) (cut d (Cv.len ((12 * y + m - 1 + k) / 12) ((12 * y + m - 1 + k) % 12 + 1)))
theorem sh_out {y m d k : Int} (h : (12 * y + m - 1 + k) / 12 < -4718 ∨ 294282 < (12 * y + m - 1 + k) / 12) : shV y m d k = 0 ∧ shE y m d k = 10 := by
  unfold shV shE
  exact day_no (right_no (by omega))
theorem shift_far (n y m d k : Int) (h : can n = true) (hd : Cv.Is n y m d) (k1 : k ≤ -3588012 ∨ 3588012 ≤ k) (w : World) (hw : Lens w) :
    Calls Tryz.prog 187 #[vi ki n, vi ki k] w fun e w' => e = zr (.tuple #[vi ki 0, vi ki 10]) ∧ w' = w := by
  have H1 : Hid (∀ w : World, Lens w → Calls Tryz.prog 126 #[vi ki n] w fun e w' => e = zr (.tuple #[vi ki y, vi ki m, vi ki d, vi ki 0]) ∧ w' = w) := fun w hw => date_yes n y m d h hd w hw
  clear hd h
  rcases k1 with k1 | k1
  · go_enter Tryz.func187, Tryz.ntmps187
    go_wp2_with fail
    refine (H1.out _ hw).mono ?_
    rintro e w1 ⟨rfl, rfl⟩
    go_wp2
    go_ret2
    exact ⟨rfl, rfl⟩
  · have k2 : ¬ k ≤ -3588012 := by omega
    go_enter Tryz.func187, Tryz.ntmps187
    go_wp2_with fail
    refine (H1.out _ hw).mono ?_
    rintro e w1 ⟨rfl, rfl⟩
    go_wp2
    go_ret2
    exact ⟨rfl, rfl⟩
theorem shift_low (n y m d k : Int) (h : can n = true) (hd : Cv.Is n y m d) (k1 : ¬ k ≤ -3588012) (k2 : ¬ 3588012 ≤ k) (k3 : (y + 4718) * 12 + m - 1 + k < 0) (w : World) (hw : Lens w) :
    Calls Tryz.prog 187 #[vi ki n, vi ki k] w fun e w' => e = zr (.tuple #[vi ki 0, vi ki 10]) ∧ w' = w := by
  obtain ⟨n1, n2⟩ := of_can h
  obtain ⟨b1, b2⟩ := Cv.is_year hd
  obtain ⟨y1, y2⟩ := can_year n1 n2 b1 b2
  have m1 := hd.1
  have m2 := hd.2.1
  have H1 : Hid (∀ w : World, Lens w → Calls Tryz.prog 126 #[vi ki n] w fun e w' => e = zr (.tuple #[vi ki y, vi ki m, vi ki d, vi ki 0]) ∧ w' = w) := fun w hw => date_yes n y m d h hd w hw
  clear b1 b2 hd h
  go_enter Tryz.func187, Tryz.ntmps187
  go_wp2_with fail
  refine (H1.out _ hw).mono ?_
  rintro e w1 ⟨rfl, rfl⟩
  go_wp2_with fail
  go_ret2
  exact ⟨rfl, rfl⟩
theorem shift_in (n y m d k Y M : Int) (h : can n = true) (hd : Cv.Is n y m d) (k1 : ¬ k ≤ -3588012) (k2 : ¬ 3588012 ≤ k) (k3 : ¬ (y + 4718) * 12 + m - 1 + k < 0)
    (eY : -4718 + ((y + 4718) * 12 + m - 1 + k) / 12 = Y) (eM : ((y + 4718) * 12 + m - 1 + k) % 12 + 1 = M) (w : World) (hw : Lens w) :
    Calls Tryz.prog 187 #[vi ki n, vi ki k] w fun e w' => e = zr (.tuple #[vi ki (dayV Y M (cut d (Cv.len Y M))), vi ki (dayE Y M (cut d (Cv.len Y M)))]) ∧ w' = w := by
  obtain ⟨n1, n2⟩ := of_can h
  obtain ⟨b1, b2⟩ := Cv.is_year hd
  obtain ⟨y1, y2⟩ := can_year n1 n2 b1 b2
  have m1 := hd.1
  have m2 := hd.2.1
  have H1 : Hid (∀ w : World, Lens w → Calls Tryz.prog 126 #[vi ki n] w fun e w' => e = zr (.tuple #[vi ki y, vi ki m, vi ki d, vi ki 0]) ∧ w' = w) := fun w hw => date_yes n y m d h hd w hw
  clear b1 b2 hd h
  by_cases hc : d ≤ Cv.len Y M
  · rw [cut_le hc]
    have hmn : min d (Cv.len Y M) = d := Int.min_eq_left hc
    go_enter Tryz.func187, Tryz.ntmps187
    go_wp2_with fail
    refine (H1.out _ hw).mono ?_
    rintro e w1 ⟨rfl, rfl⟩
    go_wp2_with fail
    refine (len_any _ _ _ hw).mono ?_
    rintro e w1 ⟨rfl, rfl⟩
    go_wp2_with fail
    refine (days_any _ _ _ _ hw).mono ?_
    rintro e w1 ⟨rfl, rfl⟩
    go_wp2
    go_ret2
    exact ⟨rfl, rfl⟩
  · rw [cut_gt hc]
    have hmn : min d (Cv.len Y M) = Cv.len Y M := Int.min_eq_right (by omega)
    go_enter Tryz.func187, Tryz.ntmps187
    go_wp2_with fail
    refine (H1.out _ hw).mono ?_
    rintro e w1 ⟨rfl, rfl⟩
    go_wp2_with fail
    refine (len_any _ _ _ hw).mono ?_
    rintro e w1 ⟨rfl, rfl⟩
    go_wp2_with fail
    refine (days_any _ _ _ _ hw).mono ?_
    rintro e w1 ⟨rfl, rfl⟩
    go_wp2
    go_ret2
    exact ⟨rfl, rfl⟩
theorem shift_any (n y m d k : Int) (h : can n = true) (hd : Cv.Is n y m d) (w : World) (hw : Lens w) :
    Calls Tryz.prog 187 #[vi ki n, vi ki k] w fun e w' => e = zr (.tuple #[vi ki (shV y m d k), vi ki (shE y m d k)]) ∧ w' = w := by
  obtain ⟨n1, n2⟩ := of_can h
  obtain ⟨b1, b2⟩ := Cv.is_year hd
  obtain ⟨y1, y2⟩ := can_year n1 n2 b1 b2
  have m1 := hd.1
  have m2 := hd.2.1
  by_cases k1 : k ≤ -3588012 ∨ 3588012 ≤ k
  · have o := sh_out (y := y) (m := m) (d := d) (k := k) (by omega)
    rw [o.1, o.2]; exact shift_far n y m d k h hd k1 w hw
  · by_cases k3 : (y + 4718) * 12 + m - 1 + k < 0
    · have o := sh_out (y := y) (m := m) (d := d) (k := k) (by omega)
      rw [o.1, o.2]; exact shift_low n y m d k h hd (by omega) (by omega) k3 w hw
    · exact shift_in n y m d k _ _ h hd (by omega) (by omega) k3 (by omega) (by omega) w hw
theorem rshift_far (n y m d k : Int) (h : can n = true) (hd : Cv.Is n y m d) (k1 : k < -3600000 ∨ 3600000 < k) (w : World) :
    Calls Tryz.prog 145 #[vi ki n, vi ki k] w fun e w' => e = zr (.tuple #[vi ki 0, vi ki 10]) ∧ w' = w := by
  have H1 : Hid (∀ w : World, Calls Tryz.prog 106 #[vi ki n] w fun e w' => e = zr (.tuple #[vi ki y, vi ki m, vi ki d, vi ki 0]) ∧ w' = w) := fun w => rdate_yes n y m d h hd w
  clear hd h
  rcases k1 with k1 | k1
  · have k2 : ¬ 3600000 < k := by omega
    go_enter Tryz.func145, Tryz.ntmps145
    go_wp2_with fail
    refine (H1.out _).mono ?_
    rintro e w1 ⟨rfl, rfl⟩
    go_wp2
    go_ret2
    exact ⟨rfl, rfl⟩
  · go_enter Tryz.func145, Tryz.ntmps145
    go_wp2_with fail
    refine (H1.out _).mono ?_
    rintro e w1 ⟨rfl, rfl⟩
    go_wp2
    go_ret2
    exact ⟨rfl, rfl⟩
theorem rshift_in (n y m d k Y M : Int) (h : can n = true) (hd : Cv.Is n y m d) (k1 : ¬ k < -3600000) (k2 : ¬ 3600000 < k)
    (eY : Hid ((12 * y + m - 1 + k) / 12 = Y)) (eM : Hid ((12 * y + m - 1 + k) % 12 + 1 = M)) (w : World) :
    Calls Tryz.prog 145 #[vi ki n, vi ki k] w fun e w' => e = zr (.tuple #[vi ki (dayV Y M (cut d (Cv.len Y M))), vi ki (dayE Y M (cut d (Cv.len Y M)))]) ∧ w' = w := by
  obtain ⟨n1, n2⟩ := of_can h
  obtain ⟨b1, b2⟩ := Cv.is_year hd
  obtain ⟨y1, y2⟩ := can_year n1 n2 b1 b2
  have m1 := hd.1
  have m2 := hd.2.1
  have H1 : Hid (∀ w : World, Calls Tryz.prog 106 #[vi ki n] w fun e w' => e = zr (.tuple #[vi ki y, vi ki m, vi ki d, vi ki 0]) ∧ w' = w) := fun w => rdate_yes n y m d h hd w
  obtain ⟨r, hr⟩ : ∃ r, r = (12 * y + m - 1 + k) % 12 := ⟨_, rfl⟩
  have r1 : 0 ≤ r := by omega
  have r2 : r < 12 := by omega
  have H2 : Hid (∀ w : World, Calls Tryz.prog 148 #[vi ki (12 * y + m - 1 + k), vi ki 12] w fun e w' => e = zr (vi ki Y) ∧ w' = w) := by
    intro w; rw [← eY.out]; exact rdiv_any _ _ (by omega) (by omega) (by decide) (by decide) w
  have H3 : Hid (∀ w : World, Calls Tryz.prog 112 #[vi ki (12 * y + m - 1 + k), vi ki 12] w fun e w' => e = zr (vi ki r) ∧ w' = w) := by
    intro w; rw [hr]; exact rmod_any _ _ (by decide) (by decide) w
  have eM' : r + 1 = M := by rw [hr]; exact eM.out
  clear b1 b2 hd h hr
  by_cases hc : d ≤ Cv.len Y M
  · rw [cut_le hc]
    have hc' : ¬ Cv.len Y M < d := by omega
    go_enter Tryz.func145, Tryz.ntmps145
    go_wp2_with fail
    refine (H1.out _).mono ?_
    rintro e w1 ⟨rfl, rfl⟩
    go_wp2_with fail
    refine (H2.out _).mono ?_
    rintro e w1 ⟨rfl, rfl⟩
    go_wp2_with fail
    refine (H3.out _).mono ?_
    rintro e w1 ⟨rfl, rfl⟩
    go_wp2_with fail
    refine (rlen_any _ _ _).mono ?_
    rintro e w1 ⟨rfl, rfl⟩
    go_wp2_with fail
    refine (rdays_any _ _ _ _).mono ?_
    rintro e w1 ⟨rfl, rfl⟩
    go_wp2
    go_ret2
    exact ⟨rfl, rfl⟩
  · rw [cut_gt hc]
    have hc' : Cv.len Y M < d := by omega
    go_enter Tryz.func145, Tryz.ntmps145
    go_wp2_with fail
    refine (H1.out _).mono ?_
    rintro e w1 ⟨rfl, rfl⟩
    go_wp2_with fail
    refine (H2.out _).mono ?_
    rintro e w1 ⟨rfl, rfl⟩
    go_wp2_with fail
    refine (H3.out _).mono ?_
    rintro e w1 ⟨rfl, rfl⟩
    go_wp2_with fail
    refine (rlen_any _ _ _).mono ?_
    rintro e w1 ⟨rfl, rfl⟩
    go_wp2_with fail
    refine (rlen_any _ _ _).mono ?_
    rintro e w1 ⟨rfl, rfl⟩
    go_wp2_with fail
    refine (rdays_any _ _ _ _).mono ?_
    rintro e w1 ⟨rfl, rfl⟩
    go_wp2
    go_ret2
    exact ⟨rfl, rfl⟩
theorem rshift_any (n y m d k : Int) (h : can n = true) (hd : Cv.Is n y m d) (w : World) :
    Calls Tryz.prog 145 #[vi ki n, vi ki k] w fun e w' => e = zr (.tuple #[vi ki (shV y m d k), vi ki (shE y m d k)]) ∧ w' = w := by
  obtain ⟨n1, n2⟩ := of_can h
  obtain ⟨b1, b2⟩ := Cv.is_year hd
  obtain ⟨y1, y2⟩ := can_year n1 n2 b1 b2
  have m1 := hd.1
  have m2 := hd.2.1
  by_cases k1 : k < -3600000 ∨ 3600000 < k
  · have o := sh_out (y := y) (m := m) (d := d) (k := k) (by omega)
    rw [o.1, o.2]; exact rshift_far n y m d k h hd k1 w
  · exact rshift_in n y m d k _ _ h hd (by omega) (by omega) rfl rfl w
end Go.Proofs.YtklehbmghjcmaaaGreatDoor.Cvl
namespace Go.Proofs.YtklehbmghjcmaaaGreatDoor
open Go.RowKit
def Bx (W : World) (b : Nat) (l : List Value) : Prop := b < W.heap.size ∧ ∀ i v, l[i]? = some v → W.cell? ⟨b, i, none⟩ = some v ∧ W.frozen? ⟨b, i, none⟩ = false
theorem Bx.below {W W' : World} {b : Nat} {l : List Value} (h : Bx W b l) (hb : Below W.heap.size W W') : Bx W' b l :=
 ⟨Nat.lt_of_lt_of_le h.1 hb.size, fun i v e => ⟨(hb.cell (p := ⟨b, i, none⟩) h.1).trans (h.2 i v e).1, (hb.frozen (p := ⟨b, i, none⟩) h.1).trans (h.2 i v e).2⟩⟩
theorem Bx.alloc {W : World} {b : Nat} {l : List Value} (h : Bx W b l) (o : Obj) : Bx (W.alloc o) b l := h.below ((Below.refl _ W).alloc (Nat.le_refl _) o)
theorem Bx.new (w : World) (l : List Value) (t : TypeId) : Bx (w.alloc (.cells l.toArray t)) w.heap.size l :=
 ⟨by simp, fun i v e => ⟨by rw [World.cell?_alloc_at _ _ _ _ rfl]; simpa using e, by rw [World.frozen?_alloc_at _ _ _ _ rfl]⟩⟩
theorem Bx.c {W : World} {b : Nat} {l : List Value} (h : Bx W b l) (i : Nat) {v : Value} (e : l[i]? = some v) : W.cell? ⟨b, i, none⟩ = some v := (h.2 i v e).1
theorem Bx.f {W : World} {b : Nat} {l : List Value} (h : Bx W b l) (i : Nat) {v : Value} (e : l[i]? = some v) : W.frozen? ⟨b, i, none⟩ = false := (h.2 i v e).2
theorem below_setCells {w : World} {b : Nat} (hb : w.heap.size ≤ b) : ∀ (vs : List Value) (W : World) (i : Nat), Below w.heap.size w W → Below w.heap.size w (W.setCells b i vs)
 | [], _, _, h => h
 | v :: vs, W, i, h => below_setCells hb vs _ _ (h.setCell (p := ⟨b, i, none⟩) hb v)
theorem setCells_size (b : Nat) : ∀ (vs : List Value) (W : World) (i : Nat), (W.setCells b i vs).heap.size = W.heap.size
 | [], _, _ => rfl
 | v :: vs, W, i => by rw [World.setCells, setCells_size b vs]; simp
theorem setCells_off (b : Nat) (vs : List Value) (W : World) (i : Nat) (p : Addr) (h : p.block ≠ b) : (W.setCells b i vs).cell? p = W.cell? p :=
 World.cell?_setCells_out b vs i W p (fun e _ => absurd e h)
theorem Bx.there {W : World} {b : Nat} {l : List Value} (h : Bx W b l) : W.there b 0 l.length := fun j hj => by
 have := h.2 j l[j] (List.getElem?_eq_getElem hj)
 rw [Nat.zero_add]
 exact ⟨by rw [this.1]; rfl, this.2⟩
theorem Bx.all {W : World} {b : Nat} {l : List Value} (h : Bx W b l) : W.rangeAt b 0 l := fun j v hv => by rw [Nat.zero_add]; exact (h.2 j v hv).1
theorem Bx.setAll {W : World} {b : Nat} {l : List Value} (h : Bx W b l) (vs : List Value) (hl : l.length = vs.length) : Bx (W.setCells b 0 vs) b vs :=
 ⟨by rw [setCells_size]; exact h.1, fun i v e => by
  have hi := (List.getElem?_eq_some_iff.1 e).1
  refine ⟨?_, ?_⟩
  ·have := World.rangeAt_setCells_same W b 0 vs (hl ▸ h.there) i v e
   rwa [Nat.zero_add] at this
  ·rw [World.frozen?_setCells]; exact (h.2 i l[i] (List.getElem?_eq_getElem (by omega))).2⟩
theorem Bx.setOther {W : World} {b' b : Nat} {l : List Value} (h : Bx W b' l) (hb : b' ≠ b) (vs : List Value) (j : Nat := 0) : Bx (W.setCells b j vs) b' l :=
 ⟨by rw [setCells_size]; exact h.1, fun i v e => ⟨by rw [setCells_off b vs _ _ _ hb]; exact (h.2 i v e).1, by rw [World.frozen?_setCells]; exact (h.2 i v e).2⟩⟩
def BS (w : World) (l : List (Nat × List Value)) (W : World) : Prop := Below w.heap.size w W ∧ ∀ x ∈ l, w.heap.size ≤ x.1 ∧ Bx W x.1 x.2
theorem BS.start (w : World) : BS w [] w := ⟨Below.refl _ _, fun x h => by cases h⟩
theorem BS.below {w W V : World} {l : List (Nat × List Value)} (h : BS w l W) (hb : Below W.heap.size W V) : BS w l V :=
 ⟨h.1.trans (hb.mono h.1.size), fun x hx => ⟨(h.2 x hx).1, (h.2 x hx).2.below hb⟩⟩
theorem BS.drew {w W : World} {l : List (Nat × List Value)} (h : BS w l W) : BS w l W.drew := ⟨h.1.drew, h.2⟩
theorem BS.alloc {w W : World} {l : List (Nat × List Value)} (h : BS w l W) (o : Obj) : BS w l (W.alloc o) := h.below ((Below.refl _ W).alloc (Nat.le_refl _) o)
theorem BS.new {w W : World} {l : List (Nat × List Value)} (h : BS w l W) (cs : List Value) (t : TypeId) {b : Nat} (hb : W.heap.size = b) : BS w ((b, cs) :: l) (W.alloc (.cells cs.toArray t)) :=
 ⟨(h.alloc _).1, fun x hx => by
  rcases List.mem_cons.1 hx with rfl | hx
  ·exact ⟨by rw [← hb]; exact h.1.size, by rw [← hb]; exact Bx.new W cs t⟩
  ·exact (h.alloc _).2 x hx⟩
theorem BS.first {w W : World} {l : List (Nat × List Value)} {b : Nat} {cs : List Value} (h : BS w ((b, cs) :: l) W) : Bx W b cs := (h.2 (b, cs) List.mem_cons_self).2
theorem BS.at {w W : World} {l : List (Nat × List Value)} (h : BS w l W) (b : Nat) (cs : List Value) (hm : (b, cs) ∈ l) : Bx W b cs := (h.2 (b, cs) hm).2
theorem BS.set {w W : World} {l : List (Nat × List Value)} {b : Nat} {cs : List Value} (h : BS w ((b, cs) :: l) W) (vs : List Value) (hl : cs.length = vs.length) (hn : ∀ x ∈ l, x.1 ≠ b) : BS w ((b, vs) :: l) (W.setCells b 0 vs) :=
 ⟨below_setCells (h.2 (b, cs) List.mem_cons_self).1 vs W 0 h.1, fun x hx => by
  rcases List.mem_cons.1 hx with rfl | hx
  ·exact ⟨(h.2 (b, cs) List.mem_cons_self).1, h.first.setAll vs hl⟩
  ·exact ⟨(h.2 x (List.mem_cons_of_mem _ hx)).1, (h.2 x (List.mem_cons_of_mem _ hx)).2.setOther (hn x hx) vs⟩⟩
theorem BS.push {w W : World} {l : List (Nat × List Value)} (h : BS w l W) (zs vs : List Value) (t : TypeId) (hl : zs.length = vs.length) : BS w ((W.heap.size, vs) :: l) ((W.alloc (.cells zs.toArray t)).setCells W.heap.size 0 vs) :=
 (h.new zs t rfl).set vs hl fun x hx => Nat.ne_of_lt (h.2 x hx).2.1
theorem gen_at {P : Program} {ops : Array Oper} {Q : Exit → Act → World → Prop} {rest : List Oper} {a : Act} {w1 : World} (T : World → Prop) (h : T w1) (k : ∀ w2, T w2 → wpList P ops Q rest a w2) : wpList P ops Q rest a w1 := k _ h
theorem gen_to {P : Program} {c : Code} {Q : Exit → Act → World → Prop} {a : Act} {w1 : World} (T : World → Prop) (h : T w1) (k : ∀ w2, T w2 → Code.wp P c Q a w2) : Code.wp P c Q a w1 := k _ h
end Go.Proofs.YtklehbmghjcmaaaGreatDoor
namespace Go.Proofs.YtklehbmghjcmaaaGreatDoor
open Go.RowKit
theorem BS.tail {w W : World} {l : List (Nat × List Value)} {x : Nat × List Value} (h : BS w (x :: l) W) : BS w l W := ⟨h.1, fun y hy => h.2 y (List.mem_cons_of_mem _ hy)⟩
def BW (w W : World) : Prop := Below w.heap.size w W
theorem BW.below {w W V : World} (h : BW w W) (hb : Below W.heap.size W V) : BW w V := Below.trans h (hb.mono h.size)
theorem BW.drew {w W : World} (h : BW w W) : BW w W.drew := Below.drew h
theorem BS.perm {w W : World} {l l' : List (Nat × List Value)} (h : BS w l W) (hs : ∀ x ∈ l', x ∈ l) : BS w l' W := ⟨h.1, fun x hx => h.2 x (hs x hx)⟩
def NB (w : World) (l : List (Nat × List Value)) (W : World) (b : Nat) (cs : List Value) : Prop := Bx W b cs ∧ w.heap.size ≤ b ∧ ∀ x ∈ l, x.1 ≠ b
theorem BS.nb {w V : World} {l : List (Nat × List Value)} {cs : List Value} {t : TypeId} (h0 : BS w l V) (h : BS w l (V.alloc (.cells cs.toArray t))) : NB w l (V.alloc (.cells cs.toArray t)) V.heap.size cs :=
 ⟨Bx.new V cs t, h0.1.size, fun x hx => Nat.ne_of_lt (h0.2 x hx).2.1⟩
theorem NB.below {w V V' : World} {l : List (Nat × List Value)} {b : Nat} {cs : List Value} (h : NB w l V b cs) (hb : Below V.heap.size V V') : NB w l V' b cs := ⟨h.1.below hb, h.2⟩
theorem BS.off {w W : World} {l : List (Nat × List Value)} (h : BS w l W) {b : Nat} (hb : w.heap.size ≤ b) (hn : ∀ x ∈ l, x.1 ≠ b) (vs : List Value) : BS w l (W.setCells b 0 vs) :=
 ⟨below_setCells hb vs W 0 h.1, fun x hx => ⟨(h.2 x hx).1, (h.2 x hx).2.setOther (hn x hx) vs⟩⟩
theorem exec_row9 {P : Program} {ρ : Operand → Value} {o : Oper} {w : World} {b off : Nat} {ty : TypeId} {x : Operand} {cs : List Value} {d : TypeDesc} (ho : o.op = .load ty x) (hx : ρ x = .pointer (some ⟨b, off, none⟩)) (hc : w.rangeAt b off cs)
  (hu : P.underlying ty = some d) (hd : d.isRow = true) (hi : (P.info? ty).map (·.size) = some cs.length) : (execOp ρ o).run P w = .ok (.value (.agg cs.toArray)) w := by
 simp only [execOp, ho, hx, Sem.run_bind, run_loadAt_mid w b off ty cs d hc hu hd hi, Sem.run_pure, Result.andThen_ok]
end Go.Proofs.YtklehbmghjcmaaaGreatDoor
namespace Go.Proofs.YtklehbmghjcmaaaGreatDoor
open Go.RowKit
theorem Lens_below {w w' : World} {b : Nat} (h : Cvl.Lens w) (hb : Below b w w') (h0 : 1 < b) : Cvl.Lens w' := fun i hi => (hb.cell (p := ⟨1, i, none⟩) h0).trans (h i hi)
theorem Lens_lt {w : World} (h : Cvl.Lens w) : 1 < w.heap.size := by
 have := h 0 (by decide)
 by_cases hlt : 1 < w.heap.size
 ·exact hlt
 ·have e : w.heap[1]? = none := Array.getElem?_eq_none (by omega)
  simp [World.cell?, e] at this
end Go.Proofs.YtklehbmghjcmaaaGreatDoor
namespace Go.Proofs.YtklehbmghjcmaaaGreatDoor
open Go.RowKit
theorem bsb {w W V : World} {l : List (Nat × List Value)} (K : Hid (BS w l W)) (hb : Below W.heap.size W V) : Hid (BS w l V) := K.out.below hb
theorem bsn {w W : World} {l : List (Nat × List Value)} (K : Hid (BS w l W)) (cs : List Value) (t : TypeId) : Hid (BS w ((W.heap.size, cs) :: l) (W.alloc (.cells cs.toArray t))) := K.out.new cs t rfl
theorem bs_to {P : Program} {c : Code} {Q : Exit → Act → World → Prop} {a : Act} {w w1 : World} {l : List (Nat × List Value)} (h : Hid (BS w l w1)) (k : ∀ w2, Hid (BS w l w2) → Code.wp P c Q a w2) : Code.wp P c Q a w1 := k _ h
theorem bo1 {w W : World} {l : List (Nat × List Value)} {b : Nat} {cs : List Value} (K : Hid (BS w ((b, cs) :: l) W)) : Bx W b cs := K.out.first
theorem bo2 {w W : World} {l : List (Nat × List Value)} {x1 : Nat × List Value} {b : Nat} {cs : List Value} (K : Hid (BS w (x1 :: (b, cs) :: l) W)) : Bx W b cs := K.out.tail.first
theorem bo3 {w W : World} {l : List (Nat × List Value)} {x1 x2 : Nat × List Value} {b : Nat} {cs : List Value} (K : Hid (BS w (x1 :: x2 :: (b, cs) :: l) W)) : Bx W b cs := K.out.tail.tail.first
theorem bo4 {w W : World} {l : List (Nat × List Value)} {x1 x2 x3 : Nat × List Value} {b : Nat} {cs : List Value} (K : Hid (BS w (x1 :: x2 :: x3 :: (b, cs) :: l) W)) : Bx W b cs := K.out.tail.tail.tail.first
theorem bo5 {w W : World} {l : List (Nat × List Value)} {x1 x2 x3 x4 : Nat × List Value} {b : Nat} {cs : List Value} (K : Hid (BS w (x1 :: x2 :: x3 :: x4 :: (b, cs) :: l) W)) : Bx W b cs := K.out.tail.tail.tail.tail.first
theorem bo6 {w W : World} {l : List (Nat × List Value)} {x1 x2 x3 x4 x5 : Nat × List Value} {b : Nat} {cs : List Value} (K : Hid (BS w (x1 :: x2 :: x3 :: x4 :: x5 :: (b, cs) :: l) W)) : Bx W b cs := K.out.tail.tail.tail.tail.tail.first
theorem Bx.c1 {W : World} {b : Nat} {v0 : Value} (h : Bx W b [v0]) : W.cell? ⟨b, 0, none⟩ = some v0 := h.c 0 rfl
theorem Bx.f1 {W : World} {b : Nat} {v0 : Value} (h : Bx W b [v0]) : W.frozen? ⟨b, 0, none⟩ = false := h.f 0 rfl
theorem Bx.c2 {W : World} {b : Nat} {v0 v1 : Value} (h : Bx W b [v0, v1]) : W.cell? ⟨b, 0, none⟩ = some v0 ∧ W.cell? ⟨b, 1, none⟩ = some v1 := ⟨h.c 0 rfl, h.c 1 rfl⟩
theorem Bx.f2 {W : World} {b : Nat} {v0 v1 : Value} (h : Bx W b [v0, v1]) : W.frozen? ⟨b, 0, none⟩ = false ∧ W.frozen? ⟨b, 1, none⟩ = false := ⟨h.f 0 rfl, h.f 1 rfl⟩
theorem Bx.c3 {W : World} {b : Nat} {v0 v1 v2 : Value} (h : Bx W b [v0, v1, v2]) : W.cell? ⟨b, 0, none⟩ = some v0 ∧ W.cell? ⟨b, 1, none⟩ = some v1 ∧ W.cell? ⟨b, 2, none⟩ = some v2 := ⟨h.c 0 rfl, h.c 1 rfl, h.c 2 rfl⟩
theorem Bx.f3 {W : World} {b : Nat} {v0 v1 v2 : Value} (h : Bx W b [v0, v1, v2]) : W.frozen? ⟨b, 0, none⟩ = false ∧ W.frozen? ⟨b, 1, none⟩ = false ∧ W.frozen? ⟨b, 2, none⟩ = false := ⟨h.f 0 rfl, h.f 1 rfl, h.f 2 rfl⟩
theorem Bx.c4 {W : World} {b : Nat} {v0 v1 v2 v3 : Value} (h : Bx W b [v0, v1, v2, v3]) : W.cell? ⟨b, 0, none⟩ = some v0 ∧ W.cell? ⟨b, 1, none⟩ = some v1 ∧ W.cell? ⟨b, 2, none⟩ = some v2 ∧ W.cell? ⟨b, 3, none⟩ = some v3 := ⟨h.c 0 rfl, h.c 1 rfl, h.c 2 rfl, h.c 3 rfl⟩
theorem Bx.f4 {W : World} {b : Nat} {v0 v1 v2 v3 : Value} (h : Bx W b [v0, v1, v2, v3]) : W.frozen? ⟨b, 0, none⟩ = false ∧ W.frozen? ⟨b, 1, none⟩ = false ∧ W.frozen? ⟨b, 2, none⟩ = false ∧ W.frozen? ⟨b, 3, none⟩ = false := ⟨h.f 0 rfl, h.f 1 rfl, h.f 2 rfl, h.f 3 rfl⟩
theorem Bx.c5 {W : World} {b : Nat} {v0 v1 v2 v3 v4 : Value} (h : Bx W b [v0, v1, v2, v3, v4]) : W.cell? ⟨b, 0, none⟩ = some v0 ∧ W.cell? ⟨b, 1, none⟩ = some v1 ∧ W.cell? ⟨b, 2, none⟩ = some v2 ∧ W.cell? ⟨b, 3, none⟩ = some v3 ∧ W.cell? ⟨b, 4, none⟩ = some v4 := ⟨h.c 0 rfl, h.c 1 rfl, h.c 2 rfl, h.c 3 rfl, h.c 4 rfl⟩
theorem bsn1 (w : World) (A0 : List Value) (a0 : TypeId) : Hid (BS w [(w.heap.size, A0)] (w.alloc (.cells A0.toArray a0))) := ((BS.start w).new A0 a0 rfl)
theorem bsn2 (w : World) (A0 : List Value) (a0 : TypeId) (A1 : List Value) (a1 : TypeId) : Hid (BS w [(w.heap.size + 1, A1), (w.heap.size, A0)] ((w.alloc (.cells A0.toArray a0)).alloc (.cells A1.toArray a1))) := (((BS.start w).new A0 a0 rfl).new A1 a1 (by simp))
theorem bsn3 (w : World) (A0 : List Value) (a0 : TypeId) (A1 : List Value) (a1 : TypeId) (A2 : List Value) (a2 : TypeId) : Hid (BS w [(w.heap.size + 2, A2), (w.heap.size + 1, A1), (w.heap.size, A0)] (((w.alloc (.cells A0.toArray a0)).alloc (.cells A1.toArray a1)).alloc (.cells A2.toArray a2))) := ((((BS.start w).new A0 a0 rfl).new A1 a1 (by simp)).new A2 a2 (by simp))
theorem bsn4 (w : World) (A0 : List Value) (a0 : TypeId) (A1 : List Value) (a1 : TypeId) (A2 : List Value) (a2 : TypeId) (A3 : List Value) (a3 : TypeId) : Hid (BS w [(w.heap.size + 3, A3), (w.heap.size + 2, A2), (w.heap.size + 1, A1), (w.heap.size, A0)] ((((w.alloc (.cells A0.toArray a0)).alloc (.cells A1.toArray a1)).alloc (.cells A2.toArray a2)).alloc (.cells A3.toArray a3))) := (((((BS.start w).new A0 a0 rfl).new A1 a1 (by simp)).new A2 a2 (by simp)).new A3 a3 (by simp))
theorem bsn5 (w : World) (A0 : List Value) (a0 : TypeId) (A1 : List Value) (a1 : TypeId) (A2 : List Value) (a2 : TypeId) (A3 : List Value) (a3 : TypeId) (A4 : List Value) (a4 : TypeId) : Hid (BS w [(w.heap.size + 4, A4), (w.heap.size + 3, A3), (w.heap.size + 2, A2), (w.heap.size + 1, A1), (w.heap.size, A0)] (((((w.alloc (.cells A0.toArray a0)).alloc (.cells A1.toArray a1)).alloc (.cells A2.toArray a2)).alloc (.cells A3.toArray a3)).alloc (.cells A4.toArray a4))) := ((((((BS.start w).new A0 a0 rfl).new A1 a1 (by simp)).new A2 a2 (by simp)).new A3 a3 (by simp)).new A4 a4 (by simp))
theorem Bx.rng {W : World} {b : Nat} {l : List Value} (h : Bx W b l) (p cs q : List Value) (e : l = p ++ (cs ++ q)) : W.rangeAt b p.length cs := fun j v hv => by
 refine (h.2 (p.length + j) v ?_).1
 have hj : j < cs.length := (List.getElem?_eq_some_iff.1 hv).1
 rw [e, List.getElem?_append_right (by omega), show p.length + j - p.length = j by omega, List.getElem?_append_left hj]
 exact hv
theorem tt_no1 (Ok : World → Prop) (T : List Value) (hT : T.length = 25) (s : ByteArray) (i u : Int)
  (RT : Hid (∀ w : World, Ok w → Calls Tryz.prog 31 #[.agg T.toArray] w fun r' w' => r' = zr (.bool false) ∧ Below w.heap.size w w'))
  (w : World) (hL : Hid (∀ W : World, Below w.heap.size w W → Ok W)) :
  Calls Tryz.prog 26 #[.agg T.toArray, .string s, .agg #[vi ki i, vi ki u]] w fun r' w' => r' = zr (.tuple #[.agg #[vi ki 0, vi ki 0], vi ki 1]) ∧ Below w.heap.size w w' := by
 have K0 := bsn3 w T 44 [vi ki i, vi ki u] 36 [vi ki 0, vi ki 0] 36
 go_enter Tryz.func26, Tryz.ntmps26
 generalize hUA : T.toArray = UA at *
 go_upto_region 1 with fail
 refine gen_to (BS w [(w.heap.size + 2, [vi ki 0, vi ki 0]), (w.heap.size + 1, [vi ki i, vi ki u]), (w.heap.size, T)]) K0.out ?_
 clear K0
 intro W0 K0'
 have K0 : Hid (BS w [(w.heap.size + 2, [vi ki 0, vi ki 0]), (w.heap.size + 1, [vi ki i, vi ki u]), (w.heap.size, T)] W0) := K0'
 clear K0'
 obtain ⟨c0_0_0, c0_0_1⟩ := (bo1 K0).c2
 obtain ⟨c0_1_0, c0_1_1⟩ := (bo2 K0).c2
 go_wp2_with (first | (refine wpList_load_mid rfl 44 _ rfl (w.heap.size) 0 rfl T _ (K0.out.at (w.heap.size) T (by simp)).all Tryz.underlying44 rfl (by rw [hT]; kernel_rfl) ?_; rw [hUA]) | fail)
 refine (RT.out _ (hL.out _ K0.out.1)).mono ?_
 rintro e W1 ⟨rfl, hb⟩
 have K1 := bsb K0 hb
 clear c0_0_0 c0_0_1 c0_1_0 c0_1_1
 clear hb K0
 obtain ⟨c1_0_0, c1_0_1⟩ := (bo1 K1).c2
 obtain ⟨z1_0_0, z1_0_1⟩ := (bo1 K1).f2
 obtain ⟨c1_1_0, c1_1_1⟩ := (bo2 K1).c2
 have XF : Hid (Bx (W1.setCells (w.heap.size + 2) 0 [vi ki 0, vi ki 0]) (w.heap.size + 2) [vi ki 0, vi ki 0]) := (K1.out.at (w.heap.size + 2) [vi ki 0, vi ki 0] (by simp)).setAll _ rfl
 have BF : Hid (Below w.heap.size w (W1.setCells (w.heap.size + 2) 0 [vi ki 0, vi ki 0])) := below_setCells (by omega) _ _ _ K1.out.1
 have y0 := XF.out.c 0 rfl
 have y1 := XF.out.c 1 rfl
 simp only [World.setCells, Nat.zero_add] at y0 y1
 clear XF
 go_wp2
 exact bodyPost_ret (v := .tuple #[.agg #[vi ki 0, vi ki 0], vi ki 1]) (by simp [results, Tryz.results26, go_sem, y0, y1]) rfl ⟨rfl, BF.out⟩
theorem tt_no2 (Ok : World → Prop) (T : List Value) (hT : T.length = 25) (s : ByteArray) (i u : Int)
  (RT : Hid (∀ w : World, Ok w → Calls Tryz.prog 31 #[.agg T.toArray] w fun r' w' => r' = zr (.bool true) ∧ Below w.heap.size w w'))
  (R : Hid (∀ w : World, Ok w → Calls Tryz.prog 32 #[.agg #[vi ki i, vi ki u]] w fun r' w' => r' = zr (.bool false) ∧ Below w.heap.size w w'))
  (w : World) (hL : Hid (∀ W : World, Below w.heap.size w W → Ok W)) :
  Calls Tryz.prog 26 #[.agg T.toArray, .string s, .agg #[vi ki i, vi ki u]] w fun r' w' => r' = zr (.tuple #[.agg #[vi ki 0, vi ki 0], vi ki 1]) ∧ Below w.heap.size w w' := by
 have K0 := bsn3 w T 44 [vi ki i, vi ki u] 36 [vi ki 0, vi ki 0] 36
 go_enter Tryz.func26, Tryz.ntmps26
 generalize hUA : T.toArray = UA at *
 go_upto_region 1 with fail
 refine gen_to (BS w [(w.heap.size + 2, [vi ki 0, vi ki 0]), (w.heap.size + 1, [vi ki i, vi ki u]), (w.heap.size, T)]) K0.out ?_
 clear K0
 intro W0 K0'
 have K0 : Hid (BS w [(w.heap.size + 2, [vi ki 0, vi ki 0]), (w.heap.size + 1, [vi ki i, vi ki u]), (w.heap.size, T)] W0) := K0'
 clear K0'
 obtain ⟨c0_0_0, c0_0_1⟩ := (bo1 K0).c2
 obtain ⟨c0_1_0, c0_1_1⟩ := (bo2 K0).c2
 go_wp2_with (first | (refine wpList_load_mid rfl 44 _ rfl (w.heap.size) 0 rfl T _ (K0.out.at (w.heap.size) T (by simp)).all Tryz.underlying44 rfl (by rw [hT]; kernel_rfl) ?_; rw [hUA]) | fail)
 refine (RT.out _ (hL.out _ K0.out.1)).mono ?_
 rintro e W1 ⟨rfl, hb⟩
 have K1 := bsb K0 hb
 clear c0_0_0 c0_0_1 c0_1_0 c0_1_1
 clear hb K0
 obtain ⟨c1_0_0, c1_0_1⟩ := (bo1 K1).c2
 obtain ⟨c1_1_0, c1_1_1⟩ := (bo2 K1).c2
 go_wp2_with (first | (refine wpList_load_mid rfl 44 _ rfl (w.heap.size) 0 rfl T _ (K1.out.at (w.heap.size) T (by simp)).all Tryz.underlying44 rfl (by rw [hT]; kernel_rfl) ?_; rw [hUA]) | fail)
 refine (R.out _ (hL.out _ K1.out.1)).mono ?_
 rintro e W2 ⟨rfl, hb⟩
 have K2 := bsb K1 hb
 clear c1_0_0 c1_0_1 c1_1_0 c1_1_1
 clear hb K1
 obtain ⟨c2_0_0, c2_0_1⟩ := (bo1 K2).c2
 obtain ⟨z2_0_0, z2_0_1⟩ := (bo1 K2).f2
 obtain ⟨c2_1_0, c2_1_1⟩ := (bo2 K2).c2
 have XF : Hid (Bx (W2.setCells (w.heap.size + 2) 0 [vi ki 0, vi ki 0]) (w.heap.size + 2) [vi ki 0, vi ki 0]) := (K2.out.at (w.heap.size + 2) [vi ki 0, vi ki 0] (by simp)).setAll _ rfl
 have BF : Hid (Below w.heap.size w (W2.setCells (w.heap.size + 2) 0 [vi ki 0, vi ki 0])) := below_setCells (by omega) _ _ _ K2.out.1
 have y0 := XF.out.c 0 rfl
 have y1 := XF.out.c 1 rfl
 simp only [World.setCells, Nat.zero_add] at y0 y1
 clear XF
 go_wp2
 exact bodyPost_ret (v := .tuple #[.agg #[vi ki 0, vi ki 0], vi ki 1]) (by simp [results, Tryz.results26, go_sem, y0, y1]) rfl ⟨rfl, BF.out⟩
theorem tt_inf (Ok : World → Prop) (T : List Value) (hT : T.length = 25) (s : ByteArray) (i u : Int) (hi : i ≠ 0)
  (RT : Hid (∀ w : World, Ok w → Calls Tryz.prog 31 #[.agg T.toArray] w fun r' w' => r' = zr (.bool true) ∧ Below w.heap.size w w'))
  (R : Hid (∀ w : World, Ok w → Calls Tryz.prog 32 #[.agg #[vi ki i, vi ki u]] w fun r' w' => r' = zr (.bool true) ∧ Below w.heap.size w w'))
  (NM : Hid (∀ w : World, Calls Tryz.prog 57 #[.string s, vi ki 12] w fun r' w' => r' = zr (.tuple #[vi ki 5, .bool true]) ∧ Below w.heap.size w w'))
  (w : World) (hL : Hid (∀ W : World, Below w.heap.size w W → Ok W)) :
  Calls Tryz.prog 26 #[.agg T.toArray, .string s, .agg #[vi ki i, vi ki u]] w fun r' w' => r' = zr (.tuple #[.agg #[vi ki i, vi ki u], vi ki 0]) ∧ Below w.heap.size w w' := by
 have h1 : (i != 0) = true := bne_iff_ne.2 hi
 have K0 := bsn3 w T 44 [vi ki i, vi ki u] 36 [vi ki 0, vi ki 0] 36
 go_enter Tryz.func26, Tryz.ntmps26
 generalize hUA : T.toArray = UA at *
 go_upto_region 1 with fail
 refine gen_to (BS w [(w.heap.size + 2, [vi ki 0, vi ki 0]), (w.heap.size + 1, [vi ki i, vi ki u]), (w.heap.size, T)]) K0.out ?_
 clear K0
 intro W0 K0'
 have K0 : Hid (BS w [(w.heap.size + 2, [vi ki 0, vi ki 0]), (w.heap.size + 1, [vi ki i, vi ki u]), (w.heap.size, T)] W0) := K0'
 clear K0'
 obtain ⟨c0_0_0, c0_0_1⟩ := (bo1 K0).c2
 obtain ⟨c0_1_0, c0_1_1⟩ := (bo2 K0).c2
 go_wp2_with (first | (refine wpList_load_mid rfl 44 _ rfl (w.heap.size) 0 rfl T _ (K0.out.at (w.heap.size) T (by simp)).all Tryz.underlying44 rfl (by rw [hT]; kernel_rfl) ?_; rw [hUA]) | fail)
 refine (RT.out _ (hL.out _ K0.out.1)).mono ?_
 rintro e W1 ⟨rfl, hb⟩
 have K1 := bsb K0 hb
 clear c0_0_0 c0_0_1 c0_1_0 c0_1_1
 clear hb K0
 obtain ⟨c1_0_0, c1_0_1⟩ := (bo1 K1).c2
 obtain ⟨c1_1_0, c1_1_1⟩ := (bo2 K1).c2
 go_wp2_with (first | (refine wpList_load_mid rfl 44 _ rfl (w.heap.size) 0 rfl T _ (K1.out.at (w.heap.size) T (by simp)).all Tryz.underlying44 rfl (by rw [hT]; kernel_rfl) ?_; rw [hUA]) | fail)
 refine (R.out _ (hL.out _ K1.out.1)).mono ?_
 rintro e W2 ⟨rfl, hb⟩
 have K2 := bsb K1 hb
 clear c1_0_0 c1_0_1 c1_1_0 c1_1_1
 clear hb K1
 obtain ⟨c2_0_0, c2_0_1⟩ := (bo1 K2).c2
 obtain ⟨c2_1_0, c2_1_1⟩ := (bo2 K2).c2
 go_wp2_with (first | (refine wpList_load_mid rfl 44 _ rfl (w.heap.size) 0 rfl T _ (K2.out.at (w.heap.size) T (by simp)).all Tryz.underlying44 rfl (by rw [hT]; kernel_rfl) ?_; rw [hUA]) | fail)
 refine (NM.out _).mono ?_
 rintro e W3 ⟨rfl, hb⟩
 have K3 := bsb K2 hb
 clear c2_0_0 c2_0_1 c2_1_0 c2_1_1
 clear hb K2
 obtain ⟨c3_0_0, c3_0_1⟩ := (bo1 K3).c2
 obtain ⟨z3_0_0, z3_0_1⟩ := (bo1 K3).f2
 obtain ⟨c3_1_0, c3_1_1⟩ := (bo2 K3).c2
 have XF : Hid (Bx (W3.setCells (w.heap.size + 2) 0 [vi ki i, vi ki u]) (w.heap.size + 2) [vi ki i, vi ki u]) := (K3.out.at (w.heap.size + 2) [vi ki 0, vi ki 0] (by simp)).setAll _ rfl
 have BF : Hid (Below w.heap.size w (W3.setCells (w.heap.size + 2) 0 [vi ki i, vi ki u])) := below_setCells (by omega) _ _ _ K3.out.1
 have y0 := XF.out.c 0 rfl
 have y1 := XF.out.c 1 rfl
 simp only [World.setCells, Nat.zero_add] at y0 y1
 clear XF
 go_wp2
 exact bodyPost_ret (v := .tuple #[.agg #[vi ki i, vi ki u], vi ki 0]) (by simp [results, Tryz.results26, go_sem, y0, y1]) rfl ⟨rfl, BF.out⟩
theorem tt_e1 (Ok : World → Prop) (T : List Value) (hT : T.length = 25) (s : ByteArray) (u V1 e : Int) (he : e ≠ 0)
  (RT : Hid (∀ w : World, Ok w → Calls Tryz.prog 31 #[.agg T.toArray] w fun r' w' => r' = zr (.bool true) ∧ Below w.heap.size w w'))
  (R : Hid (∀ w : World, Ok w → Calls Tryz.prog 32 #[.agg #[vi ki 0, vi ki u]] w fun r' w' => r' = zr (.bool true) ∧ Below w.heap.size w w'))
  (NM : Hid (∀ w : World, Calls Tryz.prog 57 #[.string s, vi ki 12] w fun r' w' => r' = zr (.tuple #[vi ki 5, .bool true]) ∧ Below w.heap.size w w'))
  (LO : Hid (∀ w : World, Ok w → Calls Tryz.prog 10 #[.agg T.toArray, .agg #[vi ki 0, vi ki u]] w fun r' w' => r' = zr (.tuple #[.agg #[vi ki 0, vi ki V1], vi ki e]) ∧ Below w.heap.size w w'))
  (w : World) (hL : Hid (∀ W : World, Below w.heap.size w W → Ok W)) :
  Calls Tryz.prog 26 #[.agg T.toArray, .string s, .agg #[vi ki 0, vi ki u]] w fun r' w' => r' = zr (.tuple #[.agg #[vi ki 0, vi ki 0], vi ki e]) ∧ Below w.heap.size w w' := by
 have e1 : (e != 0) = true := bne_iff_ne.2 he
 have K0 := bsn3 w T 44 [vi ki 0, vi ki u] 36 [vi ki 0, vi ki 0] 36
 go_enter Tryz.func26, Tryz.ntmps26
 generalize hUA : T.toArray = UA at *
 go_upto_region 1 with fail
 refine gen_to (BS w [(w.heap.size + 2, [vi ki 0, vi ki 0]), (w.heap.size + 1, [vi ki 0, vi ki u]), (w.heap.size, T)]) K0.out ?_
 clear K0
 intro W0 K0'
 have K0 : Hid (BS w [(w.heap.size + 2, [vi ki 0, vi ki 0]), (w.heap.size + 1, [vi ki 0, vi ki u]), (w.heap.size, T)] W0) := K0'
 clear K0'
 obtain ⟨c0_0_0, c0_0_1⟩ := (bo1 K0).c2
 obtain ⟨c0_1_0, c0_1_1⟩ := (bo2 K0).c2
 go_wp2_with (first | (refine wpList_load_mid rfl 44 _ rfl (w.heap.size) 0 rfl T _ (K0.out.at (w.heap.size) T (by simp)).all Tryz.underlying44 rfl (by rw [hT]; kernel_rfl) ?_; rw [hUA]) | fail)
 refine (RT.out _ (hL.out _ K0.out.1)).mono ?_
 rintro e W1 ⟨rfl, hb⟩
 have K1 := bsb K0 hb
 clear c0_0_0 c0_0_1 c0_1_0 c0_1_1
 clear hb K0
 obtain ⟨c1_0_0, c1_0_1⟩ := (bo1 K1).c2
 obtain ⟨c1_1_0, c1_1_1⟩ := (bo2 K1).c2
 go_wp2_with (first | (refine wpList_load_mid rfl 44 _ rfl (w.heap.size) 0 rfl T _ (K1.out.at (w.heap.size) T (by simp)).all Tryz.underlying44 rfl (by rw [hT]; kernel_rfl) ?_; rw [hUA]) | fail)
 refine (R.out _ (hL.out _ K1.out.1)).mono ?_
 rintro e W2 ⟨rfl, hb⟩
 have K2 := bsb K1 hb
 clear c1_0_0 c1_0_1 c1_1_0 c1_1_1
 clear hb K1
 obtain ⟨c2_0_0, c2_0_1⟩ := (bo1 K2).c2
 obtain ⟨c2_1_0, c2_1_1⟩ := (bo2 K2).c2
 go_wp2_with (first | (refine wpList_load_mid rfl 44 _ rfl (w.heap.size) 0 rfl T _ (K2.out.at (w.heap.size) T (by simp)).all Tryz.underlying44 rfl (by rw [hT]; kernel_rfl) ?_; rw [hUA]) | fail)
 refine (NM.out _).mono ?_
 rintro e W3 ⟨rfl, hb⟩
 have K3 := bsb K2 hb
 clear c2_0_0 c2_0_1 c2_1_0 c2_1_1
 clear hb K2
 obtain ⟨c3_0_0, c3_0_1⟩ := (bo1 K3).c2
 obtain ⟨c3_1_0, c3_1_1⟩ := (bo2 K3).c2
 go_wp2_with (first | (refine wpList_load_mid rfl 44 _ rfl (w.heap.size) 0 rfl T _ (K3.out.at (w.heap.size) T (by simp)).all Tryz.underlying44 rfl (by rw [hT]; kernel_rfl) ?_; rw [hUA]) | fail)
 refine (LO.out _ (hL.out _ K3.out.1)).mono ?_
 rintro e W4 ⟨rfl, hb⟩
 have K4 := bsb K3 hb
 clear c3_0_0 c3_0_1 c3_1_0 c3_1_1
 clear hb K3
 obtain ⟨c4_0_0, c4_0_1⟩ := (bo1 K4).c2
 obtain ⟨c4_1_0, c4_1_1⟩ := (bo2 K4).c2
 have Mz4 := bsn K4 [vi ki 0, vi ki V1] 36
 have lt4_0 := (bo1 K4).1
 have lt4_1 := (bo2 K4).1
 have lt4_2 := (bo3 K4).1
 go_upto_region 9 with fail
 refine bs_to Mz4 ?_
 clear c4_0_0 c4_0_1 c4_1_0 c4_1_1
 intro W5 K5
 clear Mz4 K4
 obtain ⟨c5_0_0, c5_0_1⟩ := (bo1 K5).c2
 obtain ⟨c5_1_0, c5_1_1⟩ := (bo2 K5).c2
 obtain ⟨z5_1_0, z5_1_1⟩ := (bo2 K5).f2
 obtain ⟨c5_2_0, c5_2_1⟩ := (bo3 K5).c2
 have XF : Hid (Bx (W5.setCells (w.heap.size + 2) 0 [vi ki 0, vi ki 0]) (w.heap.size + 2) [vi ki 0, vi ki 0]) := (K5.out.at (w.heap.size + 2) [vi ki 0, vi ki 0] (by simp)).setAll _ rfl
 have BF : Hid (Below w.heap.size w (W5.setCells (w.heap.size + 2) 0 [vi ki 0, vi ki 0])) := below_setCells (by omega) _ _ _ K5.out.1
 have y0 := XF.out.c 0 rfl
 have y1 := XF.out.c 1 rfl
 simp only [World.setCells, Nat.zero_add] at y0 y1
 clear XF
 go_wp2
 exact bodyPost_ret (v := .tuple #[.agg #[vi ki 0, vi ki 0], vi ki e]) (by simp [results, Tryz.results26, go_sem, y0, y1]) rfl ⟨rfl, BF.out⟩
theorem tt_ok (Ok : World → Prop) (T : List Value) (hT : T.length = 25) (s : ByteArray) (u V1 V2 V3 how e3 : Int)
  (RT : Hid (∀ w : World, Ok w → Calls Tryz.prog 31 #[.agg T.toArray] w fun r' w' => r' = zr (.bool true) ∧ Below w.heap.size w w'))
  (R : Hid (∀ w : World, Ok w → Calls Tryz.prog 32 #[.agg #[vi ki 0, vi ki u]] w fun r' w' => r' = zr (.bool true) ∧ Below w.heap.size w w'))
  (NM : Hid (∀ w : World, Calls Tryz.prog 57 #[.string s, vi ki 12] w fun r' w' => r' = zr (.tuple #[vi ki 5, .bool true]) ∧ Below w.heap.size w w'))
  (LO : Hid (∀ w : World, Ok w → Calls Tryz.prog 10 #[.agg T.toArray, .agg #[vi ki 0, vi ki u]] w fun r' w' => r' = zr (.tuple #[.agg #[vi ki 0, vi ki V1], vi ki 0]) ∧ Below w.heap.size w w'))
  (BG : Hid (∀ w : World, Ok w → Calls Tryz.prog 58 #[vi ki 5, .agg #[vi ki 0, vi ki V1]] w fun r' w' => r' = zr (.tuple #[.agg #[vi ki 0, vi ki V2], vi ki 0]) ∧ Below w.heap.size w w'))
  (IN : Hid (∀ w : World, Ok w → Calls Tryz.prog 12 #[.agg T.toArray, .agg #[vi ki 0, vi ki V2]] w fun r' w' => r' = zr (.tuple #[.agg #[vi ki 0, vi ki V3], vi ki how, vi ki e3]) ∧ Below w.heap.size w w'))
  (w : World) (hL : Hid (∀ W : World, Below w.heap.size w W → Ok W)) :
  Calls Tryz.prog 26 #[.agg T.toArray, .string s, .agg #[vi ki 0, vi ki u]] w fun r' w' => r' = zr (.tuple #[.agg #[vi ki 0, vi ki V3], vi ki e3]) ∧ Below w.heap.size w w' := by
 have K0 := bsn3 w T 44 [vi ki 0, vi ki u] 36 [vi ki 0, vi ki 0] 36
 go_enter Tryz.func26, Tryz.ntmps26
 generalize hUA : T.toArray = UA at *
 go_upto_region 1 with fail
 refine gen_to (BS w [(w.heap.size + 2, [vi ki 0, vi ki 0]), (w.heap.size + 1, [vi ki 0, vi ki u]), (w.heap.size, T)]) K0.out ?_
 clear K0
 intro W0 K0'
 have K0 : Hid (BS w [(w.heap.size + 2, [vi ki 0, vi ki 0]), (w.heap.size + 1, [vi ki 0, vi ki u]), (w.heap.size, T)] W0) := K0'
 clear K0'
 obtain ⟨c0_0_0, c0_0_1⟩ := (bo1 K0).c2
 obtain ⟨c0_1_0, c0_1_1⟩ := (bo2 K0).c2
 go_wp2_with (first | (refine wpList_load_mid rfl 44 _ rfl (w.heap.size) 0 rfl T _ (K0.out.at (w.heap.size) T (by simp)).all Tryz.underlying44 rfl (by rw [hT]; kernel_rfl) ?_; rw [hUA]) | fail)
 refine (RT.out _ (hL.out _ K0.out.1)).mono ?_
 rintro e W1 ⟨rfl, hb⟩
 have K1 := bsb K0 hb
 clear c0_0_0 c0_0_1 c0_1_0 c0_1_1
 clear hb K0
 obtain ⟨c1_0_0, c1_0_1⟩ := (bo1 K1).c2
 obtain ⟨c1_1_0, c1_1_1⟩ := (bo2 K1).c2
 go_wp2_with (first | (refine wpList_load_mid rfl 44 _ rfl (w.heap.size) 0 rfl T _ (K1.out.at (w.heap.size) T (by simp)).all Tryz.underlying44 rfl (by rw [hT]; kernel_rfl) ?_; rw [hUA]) | fail)
 refine (R.out _ (hL.out _ K1.out.1)).mono ?_
 rintro e W2 ⟨rfl, hb⟩
 have K2 := bsb K1 hb
 clear c1_0_0 c1_0_1 c1_1_0 c1_1_1
 clear hb K1
 obtain ⟨c2_0_0, c2_0_1⟩ := (bo1 K2).c2
 obtain ⟨c2_1_0, c2_1_1⟩ := (bo2 K2).c2
 go_wp2_with (first | (refine wpList_load_mid rfl 44 _ rfl (w.heap.size) 0 rfl T _ (K2.out.at (w.heap.size) T (by simp)).all Tryz.underlying44 rfl (by rw [hT]; kernel_rfl) ?_; rw [hUA]) | fail)
 refine (NM.out _).mono ?_
 rintro e W3 ⟨rfl, hb⟩
 have K3 := bsb K2 hb
 clear c2_0_0 c2_0_1 c2_1_0 c2_1_1
 clear hb K2
 obtain ⟨c3_0_0, c3_0_1⟩ := (bo1 K3).c2
 obtain ⟨c3_1_0, c3_1_1⟩ := (bo2 K3).c2
 go_wp2_with (first | (refine wpList_load_mid rfl 44 _ rfl (w.heap.size) 0 rfl T _ (K3.out.at (w.heap.size) T (by simp)).all Tryz.underlying44 rfl (by rw [hT]; kernel_rfl) ?_; rw [hUA]) | fail)
 refine (LO.out _ (hL.out _ K3.out.1)).mono ?_
 rintro e W4 ⟨rfl, hb⟩
 have K4 := bsb K3 hb
 clear c3_0_0 c3_0_1 c3_1_0 c3_1_1
 clear hb K3
 obtain ⟨c4_0_0, c4_0_1⟩ := (bo1 K4).c2
 obtain ⟨c4_1_0, c4_1_1⟩ := (bo2 K4).c2
 have Mz4 := bsn K4 [vi ki 0, vi ki V1] 36
 have lt4_0 := (bo1 K4).1
 have lt4_1 := (bo2 K4).1
 have lt4_2 := (bo3 K4).1
 go_upto_region 9 with fail
 refine bs_to Mz4 ?_
 clear c4_0_0 c4_0_1 c4_1_0 c4_1_1
 intro W5 K5
 clear Mz4 K4
 obtain ⟨c5_0_0, c5_0_1⟩ := (bo1 K5).c2
 obtain ⟨c5_1_0, c5_1_1⟩ := (bo2 K5).c2
 obtain ⟨c5_2_0, c5_2_1⟩ := (bo3 K5).c2
 go_wp2_with (first | (refine wpList_load_mid rfl 44 _ rfl (w.heap.size) 0 rfl T _ (K5.out.at (w.heap.size) T (by simp)).all Tryz.underlying44 rfl (by rw [hT]; kernel_rfl) ?_; rw [hUA]) | fail)
 refine (BG.out _ (hL.out _ K5.out.1)).mono ?_
 rintro e W6 ⟨rfl, hb⟩
 have K6 := bsb K5 hb
 clear c5_0_0 c5_0_1 c5_1_0 c5_1_1 c5_2_0 c5_2_1
 clear hb K5
 obtain ⟨c6_0_0, c6_0_1⟩ := (bo1 K6).c2
 obtain ⟨c6_1_0, c6_1_1⟩ := (bo2 K6).c2
 obtain ⟨c6_2_0, c6_2_1⟩ := (bo3 K6).c2
 have Mz6 := bsn K6 [vi ki 0, vi ki V2] 36
 have lt6_0 := (bo1 K6).1
 have lt6_1 := (bo2 K6).1
 have lt6_2 := (bo3 K6).1
 have lt6_3 := (bo4 K6).1
 go_upto_region 12 with fail
 refine bs_to Mz6 ?_
 clear c6_0_0 c6_0_1 c6_1_0 c6_1_1 c6_2_0 c6_2_1
 intro W7 K7
 clear Mz6 K6
 obtain ⟨c7_0_0, c7_0_1⟩ := (bo1 K7).c2
 obtain ⟨c7_1_0, c7_1_1⟩ := (bo2 K7).c2
 obtain ⟨c7_2_0, c7_2_1⟩ := (bo3 K7).c2
 obtain ⟨c7_3_0, c7_3_1⟩ := (bo4 K7).c2
 go_wp2_with (first | (refine wpList_load_mid rfl 44 _ rfl (w.heap.size) 0 rfl T _ (K7.out.at (w.heap.size) T (by simp)).all Tryz.underlying44 rfl (by rw [hT]; kernel_rfl) ?_; rw [hUA]) | fail)
 refine (IN.out _ (hL.out _ K7.out.1)).mono ?_
 rintro e W8 ⟨rfl, hb⟩
 have K8 := bsb K7 hb
 clear c7_0_0 c7_0_1 c7_1_0 c7_1_1 c7_2_0 c7_2_1 c7_3_0 c7_3_1
 clear hb K7
 obtain ⟨c8_0_0, c8_0_1⟩ := (bo1 K8).c2
 obtain ⟨c8_1_0, c8_1_1⟩ := (bo2 K8).c2
 obtain ⟨c8_2_0, c8_2_1⟩ := (bo3 K8).c2
 obtain ⟨c8_3_0, c8_3_1⟩ := (bo4 K8).c2
 have Mz8 := bsn K8 [vi ki 0, vi ki V3] 36
 have lt8_0 := (bo1 K8).1
 have lt8_1 := (bo2 K8).1
 have lt8_2 := (bo3 K8).1
 have lt8_3 := (bo4 K8).1
 have lt8_4 := (bo5 K8).1
 go_upto_region 17 with fail
 refine bs_to Mz8 ?_
 clear c8_0_0 c8_0_1 c8_1_0 c8_1_1 c8_2_0 c8_2_1 c8_3_0 c8_3_1
 intro W9 K9
 clear Mz8 K8
 obtain ⟨c9_0_0, c9_0_1⟩ := (bo1 K9).c2
 obtain ⟨c9_1_0, c9_1_1⟩ := (bo2 K9).c2
 obtain ⟨c9_2_0, c9_2_1⟩ := (bo3 K9).c2
 obtain ⟨c9_3_0, c9_3_1⟩ := (bo4 K9).c2
 obtain ⟨z9_3_0, z9_3_1⟩ := (bo4 K9).f2
 obtain ⟨c9_4_0, c9_4_1⟩ := (bo5 K9).c2
 have XF : Hid (Bx (W9.setCells (w.heap.size + 2) 0 [vi ki 0, vi ki V3]) (w.heap.size + 2) [vi ki 0, vi ki V3]) := (K9.out.at (w.heap.size + 2) [vi ki 0, vi ki 0] (by simp)).setAll _ rfl
 have BF : Hid (Below w.heap.size w (W9.setCells (w.heap.size + 2) 0 [vi ki 0, vi ki V3])) := below_setCells (by omega) _ _ _ K9.out.1
 have y0 := XF.out.c 0 rfl
 have y1 := XF.out.c 1 rfl
 simp only [World.setCells, Nat.zero_add] at y0 y1
 clear XF
 go_wp2
 exact bodyPost_ret (v := .tuple #[.agg #[vi ki 0, vi ki V3], vi ki e3]) (by simp [results, Tryz.results26, go_sem, y0, y1]) rfl ⟨rfl, BF.out⟩
end Go.Proofs.YtklehbmghjcmaaaGreatDoor
