import Derived.Test.YtklehbmghjcmaaaGreatDoorSz
import Derived.Test.YtklehbmghjcmaaaGreatDoorRows
import Derived.WalkKit
import Derived.WalkSpells
import Derived.WalkLawsBesides
import Derived.Lib.Strings
import Derived.Lib.Slices
import Derived.Lib.Small
import Derived.Lib.Walk
import Derived.Lib.BitFns
import Derived.Lib.Mul64
import Derived.Laws.Bits64b
import Derived.Lib.ItoaNum
import Derived.RegionTactic
import Derived.ChangeAlike
open Go.Value renaming int → vi
open Go.IntKind renaming i64 → ki
open List renaming setIfInBounds_toArray → zb, set_cons_zero → zc, set_cons_succ → zd
open Go.Act renaming put → za
open Go.Ending renaming returned → zr
set_option maxRecDepth 100000
set_option maxHeartbeats 16000000
set_option linter.unusedVariables false
namespace Go.Proofs.YtklehbmghjcmaaaGreatDoor
namespace Cv
def leap (y : Int) : Bool := (y % 4 == 0) && ((y % 100 != 0) || (y % 400 == 0))
def lp (y : Int) : Int := if leap y = true then 1 else 0
def len (y m : Int) : Int := if m = 2 then 28 + lp y else if m = 4 ∨ m = 6 ∨ m = 9 ∨ m = 11 then 30 else if 1 ≤ m ∧ m ≤ 12 then 31 else 0
def S (y : Int) : Int := 365 * (y + 4800) + (y + 4803) / 4 - (y + 4899) / 100 + (y + 5199) / 400 - 2483649
def cum (y m : Int) : Int :=
 if m ≤ 1 then 0 else if m = 2 then 31 else lp y + (if m = 3 then 59 else if m = 4 then 90 else if m = 5 then 120 else if m = 6 then 151 else if m = 7 then 181 else if m = 8 then 212 else if m = 9 then 243 else if m = 10 then 273 else if m = 11 then 304 else if m = 12 then 334 else 365)
theorem leap_iff (y : Int) : leap y = true ↔ (y % 4 = 0 ∧ (y % 100 ≠ 0 ∨ y % 400 = 0)) := by
 unfold leap; simp [bne_iff_ne]
theorem lp_eq (y : Int) : lp y = if (y % 4 = 0 ∧ (y % 100 ≠ 0 ∨ y % 400 = 0)) then 1 else 0 := by
 unfold lp; simp only [leap_iff]
theorem lp_01 (y : Int) : 0 ≤ lp y ∧ lp y ≤ 1 := by unfold lp; split <;> omega
theorem S_succ (y : Int) : S (y + 1) = S y + 365 + lp y := by
 rw [lp_eq]; unfold S; split <;> omega
theorem S_cycle (y k : Int) : S (y + 400 * k) = S y + 146097 * k := by unfold S; omega
theorem S_mono {y z : Int} (h : y ≤ z) : S y ≤ S z := by unfold S; omega
theorem S_lt {y z : Int} (h : S y < S z) : y < z := by
 by_cases g : z ≤ y
 ·have := S_mono g; omega
 ·omega
theorem year_one {n y z : Int} (h1 : S y ≤ n) (h2 : n < S (y + 1)) (h3 : S z ≤ n) (h4 : n < S (z + 1)) : y = z := by
 have a : y < z + 1 := S_lt (by omega)
 have b : z < y + 1 := S_lt (by omega)
 omega
theorem guess (n y : Int) (h : y = n * 400 / 146097) : S (2000 + y - 1) ≤ n ∧ n < S (2000 + y + 2) ∧ (S (2000 + y) ≤ n ∨ S (2000 + y - 1) ≤ n) := by
 unfold S; omega
theorem year_is (n : Int) : ∃ y, S y ≤ n ∧ n < S (y + 1) := by
 obtain ⟨g1, g2, _⟩ := guess n _ rfl
 generalize n * 400 / 146097 = y at *
 by_cases a : n < S (2000 + y)
 ·exact ⟨2000 + y - 1, g1, by rw [show 2000 + y - 1 + 1 = 2000 + y by omega]; exact a⟩
 ·by_cases b : n < S (2000 + y + 1)
  ·exact ⟨2000 + y, by omega, b⟩
  ·exact ⟨2000 + y + 1, by omega, by rw [show 2000 + y + 1 + 1 = 2000 + y + 2 by omega]; exact g2⟩
theorem len_01 (y m : Int) (h1 : 1 ≤ m) (h2 : m ≤ 12) : 28 ≤ len y m ∧ len y m ≤ 31 := by
 have := lp_01 y
 unfold len; split
 ·omega
 ·split
  ·omega
  ·split <;> omega
theorem len_bd (y m : Int) : 0 ≤ len y m ∧ len y m ≤ 31 := by
 have := lp_01 y
 unfold len; split
 ·omega
 ·split
  ·omega
  ·split <;> omega
theorem len_out (y m : Int) (h : m < 1 ∨ 12 < m) : len y m = 0 := by
 unfold len
 rw [if_neg (by omega), if_neg (by omega), if_neg (by omega)]
theorem twelve {m : Int} (h1 : 1 ≤ m) (h2 : m ≤ 12) : m = 1 ∨ m = 2 ∨ m = 3 ∨ m = 4 ∨ m = 5 ∨ m = 6 ∨ m = 7 ∨ m = 8 ∨ m = 9 ∨ m = 10 ∨ m = 11 ∨ m = 12 := by omega
theorem cum_succ (y m : Int) (h1 : 1 ≤ m) (h2 : m ≤ 12) : cum y (m + 1) = cum y m + len y m := by
 rcases twelve h1 h2 with rfl | rfl | rfl | rfl | rfl | rfl | rfl | rfl | rfl | rfl | rfl | rfl <;> simp [cum, len] <;> omega
theorem cum_one (y : Int) : cum y 1 = 0 := by simp [cum]
theorem cum_all (y : Int) : cum y 13 = 365 + lp y := by simp [cum]; omega
theorem cum_bd (y m : Int) : 0 ≤ cum y m ∧ cum y m ≤ 366 := by
 have := lp_01 y
 by_cases a : m ≤ 1
 ·unfold cum; rw [if_pos a]; omega
 ·by_cases b : m ≤ 12
  ·rcases twelve (m := m) (by omega) b with rfl | rfl | rfl | rfl | rfl | rfl | rfl | rfl | rfl | rfl | rfl | rfl <;> simp [cum] <;> omega
  ·unfold cum
   rw [if_neg a, if_neg (by omega), if_neg (by omega), if_neg (by omega), if_neg (by omega), if_neg (by omega), if_neg (by omega), if_neg (by omega), if_neg (by omega), if_neg (by omega), if_neg (by omega), if_neg (by omega)]
   omega
theorem cum_mono {y a b : Int} (h0 : 1 ≤ a) (h : a ≤ b) (h1 : b ≤ 13) : cum y a ≤ cum y b := by
 have := lp_01 y
 obtain ⟨k, rfl⟩ : ∃ k : Nat, b = a + k := ⟨(b - a).toNat, by omega⟩
 clear h
 induction k with
 | zero => simp
 | succ k ih =>
  have i := ih (by omega)
  have c := cum_succ y (a + k) (by omega) (by omega)
  have l := len_bd y (a + k)
  rw [show a + ((k + 1 : Nat) : Int) = a + (k : Int) + 1 by omega, c]
  omega
theorem month_is (y r : Int) (h1 : 0 ≤ r) (h2 : r < 365 + lp y) : ∃ m, 1 ≤ m ∧ m ≤ 12 ∧ cum y m ≤ r ∧ r < cum y (m + 1) := by
 have e := cum_all y
 have key : ∀ k : Nat, k ≤ 12 → r < cum y (k + 1) → ∃ m, 1 ≤ m ∧ m ≤ 12 ∧ cum y m ≤ r ∧ r < cum y (m + 1) := by
  intro k
  induction k with
  | zero => intro _ h; have e0 : cum y (((0 : Nat) : Int) + 1) = 0 := cum_one y; rw [e0] at h; omega
  | succ k ih =>
   intro hk h
   by_cases g : cum y ((k : Int) + 1) ≤ r
   ·exact ⟨(k : Int) + 1, by omega, by omega, g, by rw [show ((k : Int) + 1 + 1) = ((k + 1 : Nat) : Int) + 1 by omega]; exact h⟩
   ·exact ih (by omega) (by omega)
 exact key 12 (by omega) (by rw [show (((12 : Nat) : Int) + 1) = 13 by omega, e]; exact h2)
def Is (n y m d : Int) : Prop := 1 ≤ m ∧ m ≤ 12 ∧ 1 ≤ d ∧ d ≤ len y m ∧ n = S y + cum y m + d - 1
theorem is_date (n : Int) : ∃ y m d, Is n y m d := by
 obtain ⟨y, h1, h2⟩ := year_is n
 have e := S_succ y
 obtain ⟨m, m1, m2, c1, c2⟩ := month_is y (n - S y) (by omega) (by omega)
 have := cum_succ y m m1 m2
 exact ⟨y, m, n - S y - cum y m + 1, m1, m2, by omega, by omega, by omega⟩
theorem is_year {n y m d : Int} (h : Is n y m d) : S y ≤ n ∧ n < S (y + 1) := by
 obtain ⟨h1, h2, h3, h4, h5⟩ := h
 have a := cum_bd y m
 have b := cum_succ y m h1 h2
 have c := cum_mono (y := y) (a := m + 1) (b := 13) (by omega) (by omega) (by omega)
 have e := S_succ y
 rw [cum_all] at c
 omega
end Cv
end Go.Proofs.YtklehbmghjcmaaaGreatDoor
namespace Go.Proofs.YtklehbmghjcmaaaGreatDoor
namespace Nm
theorem tmod_neg_le {a b : Int} (h : a < 0) : a.tmod b ≤ 0 := by
 have := Int.tmod_nonneg (a := -a) b (by omega)
 rw [Int.neg_tmod] at this; omega
theorem keep {a b : Int} (hb : b ≠ 0) (h : a.tmod b = 0 ∨ (a.tmod b < 0 ↔ b < 0)) : a.fdiv b = a.tdiv b ∧ a.fmod b = a.tmod b := by
 rw [Int.fdiv_eq_tdiv, Int.fmod_eq_tmod]
 by_cases hd : b ∣ a
 ·simp [hd]
 ·have hz : a.tmod b ≠ 0 := fun e => hd (Int.dvd_of_tmod_eq_zero e)
  have hs : a.tmod b < 0 ↔ b < 0 := by rcases h with h | h; exact absurd h hz; exact h
  rw [if_neg hd, if_neg hd]
  by_cases ha : 0 ≤ a
  ·have h1 := Int.tmod_nonneg b ha
   have hb' : 0 ≤ b := by omega
   simp [ha, hb']
  ·have h1 := tmod_neg_le (a := a) (b := b) (by omega)
   have hb' : ¬ 0 ≤ b := by omega
   rw [if_neg ha, if_neg hb', if_neg ha, if_neg hb', Int.sign_eq_neg_one_of_neg (by omega)]
   have : (b.toNat : Int) = 0 := by omega
   omega
theorem down {a b : Int} (hb : b ≠ 0) (hz : a.tmod b ≠ 0) (h : ¬ (a.tmod b < 0 ↔ b < 0)) : a.fdiv b = a.tdiv b - 1 ∧ a.fmod b = a.tmod b + b := by
 have hd : ¬ b ∣ a := fun e => hz (Int.tmod_eq_zero_of_dvd e)
 rw [Int.fdiv_eq_tdiv, Int.fmod_eq_tmod, if_neg hd, if_neg hd]
 by_cases ha : 0 ≤ a
 ·have h1 := Int.tmod_nonneg b ha
  have hb' : ¬ 0 ≤ b := by omega
  simp [ha, hb']
 ·have h1 := tmod_neg_le (a := a) (b := b) (by omega)
  have hb' : 0 ≤ b := by omega
  rw [if_neg ha, if_pos hb', if_neg ha, if_pos hb', Int.sign_eq_one_of_pos (by omega)]
  omega
theorem tdiv_half {a b : Int} (h1 : -9223372036854775808 ≤ a) (h2 : a ≤ 9223372036854775807) (hb : b ≤ -2 ∨ 2 ≤ b) : -4611686018427387904 ≤ a.tdiv b ∧ a.tdiv b ≤ 4611686018427387904 := by
 have e : (a.tdiv b).natAbs = a.natAbs / b.natAbs := Int.natAbs_tdiv a b
 have l : a.natAbs / b.natAbs ≤ a.natAbs / 2 := Nat.div_le_div_left (by omega) (by omega)
 omega
theorem tdiv_bd {a b : Int} (h1 : -9223372036854775808 ≤ a) (h2 : a ≤ 9223372036854775807) (hb : b ≠ 0) (h : a ≠ -9223372036854775808 ∨ b ≠ -1) : -9223372036854775808 ≤ a.tdiv b ∧ a.tdiv b ≤ 9223372036854775807 := by
 by_cases h3 : b = 1
 ·subst h3; rw [Int.tdiv_one]; omega
 ·by_cases h4 : b = -1
  ·subst h4; rw [Int.tdiv_neg, Int.tdiv_one]; omega
  ·have := tdiv_half h1 h2 (b := b) (by omega)
   omega
theorem two_of_left {a b : Int} (hb : b ≠ 0) (hz : a.tmod b ≠ 0) : b ≤ -2 ∨ 2 ≤ b := by
 by_cases h3 : b = 1
 ·subst h3; exact absurd (Int.tmod_one a) hz
 ·by_cases h4 : b = -1
  ·subst h4; rw [Int.tmod_neg, Int.tmod_one] at hz; exact absurd rfl hz
  ·omega
theorem tmod_bd {a b : Int} (hb : b ≠ 0) : (a.tmod b).natAbs < b.natAbs := by
 have e : (a.tmod b).natAbs = a.natAbs % b.natAbs := Int.natAbs_tmod a b
 rw [e]
 exact Nat.mod_lt _ (by omega)
end Nm
end Go.Proofs.YtklehbmghjcmaaaGreatDoor
namespace Go.Proofs.YtklehbmghjcmaaaGreatDoor
open Go.RowKit
theorem ret_int {k : IntKind} {a b : Int} (h : a = b) : Ending.returned (.int k a) = zr (.int k b) := by rw [h]
theorem ret_two {k l : IntKind} {a b c d : Int} (h : a = b) (g : c = d) : Ending.returned (.tuple #[.int k a, .int l c]) = zr (.tuple #[.int k b, .int l d]) := by rw [h, g]
def smV (x : Int) : Int := if -9223372036854775808 ≤ x ∧ x ≤ 9223372036854775807 then x else 0
def smE (x : Int) : Int := if -9223372036854775808 ≤ x ∧ x ≤ 9223372036854775807 then 0 else 10
theorem smV_in {x : Int} (h1 : -9223372036854775808 ≤ x) (h2 : x ≤ 9223372036854775807) : smV x = x := if_pos ⟨h1, h2⟩
theorem smE_in {x : Int} (h1 : -9223372036854775808 ≤ x) (h2 : x ≤ 9223372036854775807) : smE x = 0 := if_pos ⟨h1, h2⟩
theorem smV_out {x : Int} (h : x < -9223372036854775808 ∨ 9223372036854775807 < x) : smV x = 0 := if_neg (by omega)
theorem smE_out {x : Int} (h : x < -9223372036854775808 ∨ 9223372036854775807 < x) : smE x = 10 := if_neg (by omega)
theorem add_in (a b : Int) (h1 : -9223372036854775808 ≤ a) (h2 : a ≤ 9223372036854775807) (h3 : -9223372036854775808 ≤ b) (h4 : b ≤ 9223372036854775807)
  (l1 : -9223372036854775808 ≤ a + b) (l2 : a + b ≤ 9223372036854775807) (w : World) :
  Calls Tryz.prog 81 #[vi ki a, vi ki b] w fun e w' => e = zr (.tuple #[vi ki (a + b), vi ki 0]) ∧ w' = w := by
 by_cases h : b < 0
 ·have hs : a + b < a := by omega
  go_enter Tryz.func81, Tryz.ntmps81
  go_wp2
  go_ret2
  exact ⟨rfl, rfl⟩
 ·have hs : ¬ a + b < a := by omega
  go_enter Tryz.func81, Tryz.ntmps81
  go_wp2
  go_ret2
  exact ⟨rfl, rfl⟩
theorem add_out (a b : Int) (h1 : -9223372036854775808 ≤ a) (h2 : a ≤ 9223372036854775807) (h3 : -9223372036854775808 ≤ b) (h4 : b ≤ 9223372036854775807)
  (l : a + b < -9223372036854775808 ∨ 9223372036854775807 < a + b) (w : World) :
  Calls Tryz.prog 81 #[vi ki a, vi ki b] w fun e w' => e = zr (.tuple #[vi ki 0, vi ki 10]) ∧ w' = w := by
 rcases l with l | l
 ·have h : b < 0 := by omega
  have hs : ¬ wrap64 (a + b) < a := by unfold wrap64; omega
  clear l
  go_enter Tryz.func81, Tryz.ntmps81
  go_wp2
  go_ret2
  exact ⟨rfl, rfl⟩
 ·have h : ¬ b < 0 := by omega
  have hs : wrap64 (a + b) < a := by unfold wrap64; omega
  clear l
  go_enter Tryz.func81, Tryz.ntmps81
  go_wp2
  go_ret2
  exact ⟨rfl, rfl⟩
theorem add_any (a b : Int) (h1 : -9223372036854775808 ≤ a) (h2 : a ≤ 9223372036854775807) (h3 : -9223372036854775808 ≤ b) (h4 : b ≤ 9223372036854775807) (w : World) :
  Calls Tryz.prog 81 #[vi ki a, vi ki b] w fun e w' => e = zr (.tuple #[vi ki (smV (a + b)), vi ki (smE (a + b))]) ∧ w' = w := by
 by_cases l : -9223372036854775808 ≤ a + b ∧ a + b ≤ 9223372036854775807
 ·rw [smV_in l.1 l.2, smE_in l.1 l.2]; exact add_in a b h1 h2 h3 h4 l.1 l.2 w
 ·rw [smV_out (by omega), smE_out (by omega)]; exact add_out a b h1 h2 h3 h4 (by omega) w
def sgn (b : Bool) (n : Nat) : Int := if b then -(n : Int) else n
theorem div_edge (w : World) :
  Calls Tryz.prog 80 #[vi ki (-9223372036854775808), vi ki (-1)] w fun e w' => e = zr (.tuple #[vi ki 0, vi ki 10]) ∧ w' = w := by
 go_enter Tryz.func80, Tryz.ntmps80
 go_wp2
 go_ret2
 exact ⟨rfl, rfl⟩
theorem div_in (a b : Int) (h1 : -9223372036854775808 ≤ a) (h2 : a ≤ 9223372036854775807) (h3 : -9223372036854775808 ≤ b) (h4 : b ≤ 9223372036854775807)
  (hb : b ≠ 0) (h : a ≠ -9223372036854775808 ∨ b ≠ -1) (w : World) :
  Calls Tryz.prog 80 #[vi ki a, vi ki b] w fun e w' => e = zr (.tuple #[vi ki (a.fdiv b), vi ki 0]) ∧ w' = w := by
 have hb0 : (b == 0) = false := by rw [beq_eq_false_iff_ne]; exact hb
 have he : (a == -9223372036854775808) = false ∨ ((a == -9223372036854775808) = true ∧ (b == -1) = false) := by
  by_cases ha : a = -9223372036854775808
  ·exact .inr ⟨by rw [beq_iff_eq]; exact ha, by rw [beq_eq_false_iff_ne]; omega⟩
  ·exact .inl (by rw [beq_eq_false_iff_ne]; exact ha)
 obtain ⟨q1, q2⟩ := Nm.tdiv_bd h1 h2 hb h
 by_cases hz : a.tmod b = 0
 ·have hq : Hid (a.fdiv b = a.tdiv b) := (Nm.keep hb (.inl hz)).1
  have hz' : (a.tmod b != 0) = false := by rw [hz]; rfl
  have hw : wrap64 (a.tdiv b) = a.tdiv b := by unfold wrap64; omega
  clear hz h
  rcases he with he | ⟨he, he2⟩
  all_goals
   go_enter Tryz.func80, Tryz.ntmps80
   go_wp2
   go_ret2
   exact ⟨ret_two hq.out.symm rfl, rfl⟩
 ·have hz' : (a.tmod b != 0) = true := by rw [bne_iff_ne]; exact hz
  by_cases hs : a.tmod b < 0 ↔ b < 0
  ·have hq : Hid (a.fdiv b = a.tdiv b) := (Nm.keep hb (.inr hs)).1
   have hw : wrap64 (a.tdiv b) = a.tdiv b := by unfold wrap64; omega
   by_cases hn : b < 0
   ·have hm : a.tmod b < 0 := hs.2 hn
    clear hs hz h
    rcases he with he | ⟨he, he2⟩
    all_goals
     go_enter Tryz.func80, Tryz.ntmps80
     go_wp2
     go_ret2
     exact ⟨ret_two hq.out.symm rfl, rfl⟩
   ·have hm : ¬ a.tmod b < 0 := fun x => hn (hs.1 x)
    clear hs hz h
    rcases he with he | ⟨he, he2⟩
    all_goals
     go_enter Tryz.func80, Tryz.ntmps80
     go_wp2
     go_ret2
     exact ⟨ret_two hq.out.symm rfl, rfl⟩
  ·have hq : Hid (a.fdiv b = a.tdiv b - 1) := (Nm.down hb hz hs).1
   obtain ⟨q3, q4⟩ := Nm.tdiv_half h1 h2 (Nm.two_of_left hb hz)
   have hw : wrap64 (a.tdiv b) = a.tdiv b := by unfold wrap64; omega
   by_cases hn : b < 0
   ·have hm : ¬ a.tmod b < 0 := fun x => hs ⟨fun _ => hn, fun _ => x⟩
    clear hs hz h
    rcases he with he | ⟨he, he2⟩
    all_goals
     go_enter Tryz.func80, Tryz.ntmps80
     go_wp2
     go_ret2
     exact ⟨ret_two hq.out.symm rfl, rfl⟩
   ·have hm : a.tmod b < 0 := by
     by_cases x : a.tmod b < 0
     ·exact x
     ·exact absurd ⟨fun y => absurd y x, fun y => absurd y hn⟩ hs
    clear hs hz h
    rcases he with he | ⟨he, he2⟩
    all_goals
     go_enter Tryz.func80, Tryz.ntmps80
     go_wp2
     go_ret2
     exact ⟨ret_two hq.out.symm rfl, rfl⟩
end Go.Proofs.YtklehbmghjcmaaaGreatDoor
namespace Go.Proofs.YtklehbmghjcmaaaGreatDoor
open Go.RowKit
end Go.Proofs.YtklehbmghjcmaaaGreatDoor
namespace Go.Proofs.YtklehbmghjcmaaaGreatDoor
open Go.RowKit
theorem sgn_of (a b : Int) : sgn (decide (a < 0) != decide (b < 0)) (a.natAbs * b.natAbs) = a * b := by
 have e : ((a.natAbs * b.natAbs : Nat) : Int) = (a.natAbs : Int) * (b.natAbs : Int) := Int.natCast_mul _ _
 unfold sgn
 rw [e]
 by_cases ha : a < 0
 ·have ea : (a.natAbs : Int) = -a := by omega
  by_cases hb : b < 0
  ·have eb : (b.natAbs : Int) = -b := by omega
   simp [ha, hb, ea, eb, Int.neg_mul, Int.mul_neg]
  ·have eb : (b.natAbs : Int) = b := by omega
   simp [ha, hb, ea, eb, Int.neg_mul]
 ·have ea : (a.natAbs : Int) = a := by omega
  by_cases hb : b < 0
  ·have eb : (b.natAbs : Int) = -b := by omega
   simp [ha, hb, ea, eb, Int.mul_neg]
  ·have eb : (b.natAbs : Int) = b := by omega
   simp [ha, hb, ea, eb]
theorem mod_in (a b : Int) (h3 : -9223372036854775808 ≤ b) (h4 : b ≤ 9223372036854775807) (hb : b ≠ 0) (w : World) :
  Calls Tryz.prog 117 #[vi ki a, vi ki b] w fun e w' => e = zr (.tuple #[vi ki (a.fmod b), vi ki 0]) ∧ w' = w := by
 have hb0 : (b == 0) = false := by rw [beq_eq_false_iff_ne]; exact hb
 have bd := Nm.tmod_bd (a := a) hb
 by_cases hz : a.tmod b = 0
 ·have hq : Hid (a.fmod b = a.tmod b) := (Nm.keep hb (.inl hz)).2
  have hz' : (a.tmod b != 0) = false := by rw [hz]; rfl
  clear hz
  go_enter Tryz.func117, Tryz.ntmps117
  go_wp2
  go_ret2
  exact ⟨ret_two hq.out.symm rfl, rfl⟩
 ·have hz' : (a.tmod b != 0) = true := by rw [bne_iff_ne]; exact hz
  by_cases hs : a.tmod b < 0 ↔ b < 0
  ·have hq : Hid (a.fmod b = a.tmod b) := (Nm.keep hb (.inr hs)).2
   by_cases hn : b < 0
   ·have hm : a.tmod b < 0 := hs.2 hn
    clear hs hz
    go_enter Tryz.func117, Tryz.ntmps117
    go_wp2
    go_ret2
    exact ⟨ret_two hq.out.symm rfl, rfl⟩
   ·have hm : ¬ a.tmod b < 0 := fun x => hn (hs.1 x)
    clear hs hz
    go_enter Tryz.func117, Tryz.ntmps117
    go_wp2
    go_ret2
    exact ⟨ret_two hq.out.symm rfl, rfl⟩
  ·have hq : Hid (a.fmod b = a.tmod b + b) := (Nm.down hb hz hs).2
   by_cases hn : b < 0
   ·have hm : ¬ a.tmod b < 0 := fun x => hs ⟨fun _ => hn, fun _ => x⟩
    have l1 : -9223372036854775808 ≤ a.tmod b + b := by omega
    have l2 : a.tmod b + b ≤ 9223372036854775807 := by omega
    clear hs hz
    go_enter Tryz.func117, Tryz.ntmps117
    go_wp2
    go_ret2
    exact ⟨ret_two hq.out.symm rfl, rfl⟩
   ·have hm : a.tmod b < 0 := by
     by_cases x : a.tmod b < 0
     ·exact x
     ·exact absurd ⟨fun y => absurd y x, fun y => absurd y hn⟩ hs
    have l1 : -9223372036854775808 ≤ a.tmod b + b := by omega
    have l2 : a.tmod b + b ≤ 9223372036854775807 := by omega
    clear hs hz
    go_enter Tryz.func117, Tryz.ntmps117
    go_wp2
    go_ret2
    exact ⟨ret_two hq.out.symm rfl, rfl⟩
theorem day_div (u : Int) : u.fdiv 86400000000 = u / 86400000000 := Int.fdiv_eq_ediv_of_nonneg u (by decide)
theorem day_mod (u : Int) : u.fmod 86400000000 = u % 86400000000 := Int.fmod_eq_emod_of_nonneg u (by decide)
theorem split_any (u : Int) (h1 : -9223372036854775808 ≤ u) (h2 : u ≤ 9223372036854775807) (w : World) :
  Calls Tryz.prog 76 #[vi ki u] w fun e w' => e = zr (.tuple #[vi ki (u / 86400000000), vi ki (u % 86400000000)]) ∧ w' = w := by
 have C1 := div_in u 86400000000 h1 h2 (by decide) (by decide) (by decide) (.inr (by decide))
 have C2 := mod_in u 86400000000 (by decide) (by decide) (by decide)
 rw [day_div] at C1
 rw [day_mod] at C2
 have H1 : Hid (∀ w : World, Calls Tryz.prog 80 #[vi ki u, vi ki 86400000000] w fun e w' => e = zr (.tuple #[vi ki (u / 86400000000), vi ki 0]) ∧ w' = w) := C1
 have H2 : Hid (∀ w : World, Calls Tryz.prog 117 #[vi ki u, vi ki 86400000000] w fun e w' => e = zr (.tuple #[vi ki (u % 86400000000), vi ki 0]) ∧ w' = w) := C2
 clear C1 C2
 go_enter Tryz.func76, Tryz.ntmps76
 go_wp2_with fail
 refine (H1.out _).mono ?_
 rintro e w1 ⟨rfl, rfl⟩
 go_wp2_with fail
 refine (H2.out _).mono ?_
 rintro e w1 ⟨rfl, rfl⟩
 go_wp2
 go_ret2
 exact ⟨rfl, rfl⟩
end Go.Proofs.YtklehbmghjcmaaaGreatDoor
namespace Go.Proofs.YtklehbmghjcmaaaGreatDoor
namespace Dv
theorem guess (u d y y1 y0 : Nat) (hy : y = y1 * 4294967296 + y0) (h0 : y0 < 4294967296) (h1 : 2147483648 ≤ y1) (hu : u < y) (hd : d < 4294967296) :
  (u * 4294967296 + d) / y ≤ u / y1 ∧ u / y1 ≤ 4294967297 ∧ u / y1 * y1 + u % y1 = u ∧ (u * 4294967296 + d) / y < 4294967296 := by
 refine ⟨?_, ?_, ?_, ?_⟩
 ·have e : u / y1 = (u * 4294967296 + d) / 4294967296 / y1 := by
   have : (u * 4294967296 + d) / 4294967296 = u := by omega
   rw [this]
  rw [e, Nat.div_div_eq_div_mul]
  exact Nat.div_le_div_left (by rw [Nat.mul_comm]; omega) (Nat.mul_pos (by omega) (by omega))
 ·have : u / y1 < 4294967298 := Nat.div_lt_of_lt_mul (by omega)
  omega
 ·rw [Nat.mul_comm]; exact Nat.div_add_mod u y1
 ·exact Nat.div_lt_of_lt_mul (by rw [Nat.mul_comm]; omega)
theorem split (q y y1 y0 : Nat) (hy : y = y1 * 4294967296 + y0) : q * y = 4294967296 * (q * y1) + q * y0 := by
 rw [hy, Nat.mul_add, ← Nat.mul_assoc, Nat.mul_comm (q * y1)]
end Dv
end Go.Proofs.YtklehbmghjcmaaaGreatDoor
namespace Go.Proofs.YtklehbmghjcmaaaGreatDoor
open Go.RowKit
end Go.Proofs.YtklehbmghjcmaaaGreatDoor
namespace Go.Proofs.YtklehbmghjcmaaaGreatDoor
open Go.RowKit
end Go.Proofs.YtklehbmghjcmaaaGreatDoor
namespace Go.Proofs.YtklehbmghjcmaaaGreatDoor
open Go.RowKit
theorem fdiv_pp (p n : Nat) : (p : Int).fdiv (n : Int) = ((p / n : Nat) : Int) := by
 rw [Int.fdiv_eq_ediv_of_nonneg _ (by omega), Int.natCast_ediv]
theorem fdiv_np (p n : Nat) (hn : 0 < n) : (-(p : Int)).fdiv (n : Int) = if p % n = 0 then -((p / n : Nat) : Int) else -((p / n : Nat) : Int) - 1 := by
 rw [Int.fdiv_eq_ediv_of_nonneg _ (by omega)]
 have e := Nat.div_add_mod p n
 have l := Nat.mod_lt p hn
 have e' : (n : Int) * ((p / n : Nat) : Int) + ((p % n : Nat) : Int) = (p : Int) := by rw [← Int.natCast_mul, ← Int.natCast_add, e]
 by_cases h : p % n = 0
 ·rw [if_pos h]
  refine ((Int.ediv_emod_unique (r := 0) (by omega)).2 ⟨?_, by omega, by omega⟩).1
  rw [h] at e'
  rw [Int.mul_neg]
  omega
 ·rw [if_neg h]
  refine ((Int.ediv_emod_unique (r := (n : Int) - ((p % n : Nat) : Int)) (by omega)).2 ⟨?_, by omega, by omega⟩).1
  rw [Int.mul_sub, Int.mul_neg]
  omega
theorem scale_math (a b c : Int) (p n : Nat) (hp : a.natAbs * b.natAbs = p) (hn : c.natAbs = n) (hc : c ≠ 0) :
  (a * b).fdiv c = if ((decide (a < 0) != decide (b < 0)) != decide (c < 0)) = true then (if p % n = 0 then -((p / n : Nat) : Int) else -((p / n : Nat) : Int) - 1) else ((p / n : Nat) : Int) := by
 have hs := sgn_of a b
 rw [hp] at hs
 rw [← hs]
 have hn0 : 0 < n := by omega
 generalize (decide (a < 0) != decide (b < 0)) = X
 by_cases h : c < 0
 ·have ec : c = -(n : Int) := by omega
  rw [ec]
  have hd : decide (-(n : Int) < 0) = true := by rw [decide_eq_true_eq]; omega
  rw [hd]
  cases X
  ·show (p : Int).fdiv (-(n : Int)) = _
   rw [show (p : Int).fdiv (-(n : Int)) = (-(p : Int)).fdiv (n : Int) by rw [← Int.neg_fdiv_neg (p : Int) (-(n : Int)), Int.neg_neg], fdiv_np p n hn0]
   rfl
  ·show (-(p : Int)).fdiv (-(n : Int)) = _
   rw [Int.neg_fdiv_neg, fdiv_pp]
   rfl
 ·have ec : c = (n : Int) := by omega
  rw [ec]
  have hd : decide ((n : Int) < 0) = false := by rw [decide_eq_false_iff_not]; omega
  rw [hd]
  cases X
  ·show (p : Int).fdiv (n : Int) = _
   rw [fdiv_pp]
   rfl
  ·show (-(p : Int)).fdiv (n : Int) = _
   rw [fdiv_np p n hn0]
   rfl
end Go.Proofs.YtklehbmghjcmaaaGreatDoor
namespace Go.Proofs.YtklehbmghjcmaaaGreatDoor
open Go.RowKit
end Go.Proofs.YtklehbmghjcmaaaGreatDoor
