import Derived.Test.YthhpdjjfbfkgiaaGreatDoorRows
import Derived.WalkKit
import Derived.WalkSpells
import Derived.WalkLawsBesides
import Derived.Deep.RegionHeld3
import Derived.Deep.RegionWith
import Derived.Deep.DeepMust
/- Plain mathematics of whole numbers: how the quotient that cuts toward nought and the one that goes downward hang together, and how far each can go. -/
namespace Go.Proofs.YthhpdjjfbfkgiaaGreatDoor
set_option linter.unusedVariables false
namespace Nm

theorem tmod_neg_le {a b : Int} (h : a < 0) : a.tmod b ≤ 0 := by
  have := Int.tmod_nonneg (a := -a) b (by omega)
  rw [Int.neg_tmod] at this; omega

/-- where nothing is left, or what is left has the divisor's sign, both quotients are one. -/
theorem keep {a b : Int} (hb : b ≠ 0) (h : a.tmod b = 0 ∨ (a.tmod b < 0 ↔ b < 0)) : a.fdiv b = a.tdiv b ∧ a.fmod b = a.tmod b := by
  rw [Int.fdiv_eq_tdiv, Int.fmod_eq_tmod]
  by_cases hd : b ∣ a
  · simp [hd]
  · have hz : a.tmod b ≠ 0 := fun e => hd (Int.dvd_of_tmod_eq_zero e)
    have hs : a.tmod b < 0 ↔ b < 0 := by rcases h with h | h; exact absurd h hz; exact h
    rw [if_neg hd, if_neg hd]
    by_cases ha : 0 ≤ a
    · have h1 := Int.tmod_nonneg b ha
      have hb' : 0 ≤ b := by omega
      simp [ha, hb']
    · have h1 := tmod_neg_le (a := a) (b := b) (by omega)
      have hb' : ¬ 0 ≤ b := by omega
      rw [if_neg ha, if_neg hb', if_neg ha, if_neg hb', Int.sign_eq_neg_one_of_neg (by omega)]
      have : (b.toNat : Int) = 0 := by omega
      omega

end Nm
end Go.Proofs.YthhpdjjfbfkgiaaGreatDoor
/- Plain mathematics of the calendar: leap years, lengths of months, the day on which a year begins, and that every day has one date. -/
namespace Go.Proofs.YthhpdjjfbfkgiaaGreatDoor
set_option linter.unusedVariables false
namespace Cv

def leap (y : Int) : Bool := (y % 4 == 0) && ((y % 100 != 0) || (y % 400 == 0))
/-- one more day in leap years. -/
def lp (y : Int) : Int := if leap y = true then 1 else 0
def len (y m : Int) : Int := if m = 2 then 28 + lp y else if m = 4 ∨ m = 6 ∨ m = 9 ∨ m = 11 then 30 else if 1 ≤ m ∧ m ≤ 12 then 31 else 0
/-- the day of January 1. -/
def S (y : Int) : Int := 365 * (y + 4800) + (y + 4803) / 4 - (y + 4899) / 100 + (y + 5199) / 400 - 2483649
end Cv
end Go.Proofs.YthhpdjjfbfkgiaaGreatDoor
/- Contracts of the reference's mod, div, Leap, Len, Right, start, day, and of civil.Leap, Len, Right, newYear: each answers the plain mathematics. -/
namespace Go.Proofs.YthhpdjjfbfkgiaaGreatDoor.Cvl
open Go.RowKit
set_option linter.unusedVariables false

theorem ret_int {k : IntKind} {a b : Int} (h : a = b) : Ending.returned (.int k a) = .returned (.int k b) := by rw [h]
theorem ret_bool {a b : Bool} (h : a = b) : Ending.returned (.bool a) = .returned (.bool b) := by rw [h]

theorem tz (y k : Int) (hk : 0 < k) : (y.tmod k == 0) = (y % k == 0) := by
  rw [Bool.eq_iff_iff, beq_iff_eq, beq_iff_eq]
  exact ⟨fun h => Int.emod_eq_zero_of_dvd (Int.dvd_of_tmod_eq_zero h), fun h => Int.tmod_eq_zero_of_dvd (Int.dvd_of_emod_eq_zero h)⟩

end Go.Proofs.YthhpdjjfbfkgiaaGreatDoor.Cvl
/- Contracts, more: the reference's Leap, Len, Right, start, day; civil.Len, Right, newYear. -/
namespace Go.Proofs.YthhpdjjfbfkgiaaGreatDoor.Cvl
open Go.RowKit
set_option linter.unusedVariables false

/-- can the date be? -/
def right (y m d : Int) : Bool := decide (-4718 ≤ y ∧ y ≤ 294282 ∧ 1 ≤ d ∧ d ≤ Cv.len y m)
end Go.Proofs.YthhpdjjfbfkgiaaGreatDoor.Cvl
/- Contracts, more: the reference's day, First, Last, Can, Days, Date; civil.First, Last, canBe, yearOf, Days, Date. -/
namespace Go.Proofs.YthhpdjjfbfkgiaaGreatDoor.Cvl
open Go.RowKit
set_option linter.unusedVariables false

end Go.Proofs.YthhpdjjfbfkgiaaGreatDoor.Cvl
/- Contracts, more: Days and Date, of civil and of the reference. -/
namespace Go.Proofs.YthhpdjjfbfkgiaaGreatDoor.Cvl
open Go.RowKit
set_option linter.unusedVariables false

end Go.Proofs.YthhpdjjfbfkgiaaGreatDoor.Cvl
/- Contracts, more: Weekday, YearDay, Week, of civil and of the reference. -/
namespace Go.Proofs.YthhpdjjfbfkgiaaGreatDoor.Cvl
open Go.RowKit
set_option linter.unusedVariables false

end Go.Proofs.YthhpdjjfbfkgiaaGreatDoor.Cvl
/- Contracts of package when's forms: which way a day is said; whether it can be. -/
namespace Go.Proofs.YthhpdjjfbfkgiaaGreatDoor
open Go.RowKit
set_option linter.unusedVariables false

/-- can it be a day of a month? -/
def okOn (k d n : Int) : Prop := (k = 0 ∧ 1 ≤ n ∧ n ≤ 31 ∧ d = 0) ∨ (k = 1 ∧ 0 ≤ d ∧ d ≤ 6 ∧ n = 0) ∨ ((k = 2 ∨ k = 3) ∧ 0 ≤ d ∧ d ≤ 6 ∧ 1 ≤ n ∧ n ≤ 31)
instance (k d n : Int) : Decidable (okOn k d n) := by unfold okOn; infer_instance
def formV (k d n : Int) : Value :=
  if k = 0 then .iface 216 (.agg #[.int .i64 n]) else if k = 1 then .iface 220 (.agg #[.int .i64 d]) else .iface 218 (.agg #[.int .i64 d, .int .i64 n, .bool (decide (k = 3))])
def onV (k d n : Int) : Value := .agg #[.int .i64 k, .int .i64 d, .int .i64 n]

/-- a block that holds a day of a month, as the call made it. -/
def OnS (w : World) (b : Nat) (k d n : Int) (W : World) : Prop :=
  b < W.heap.size ∧ W.cell? ⟨b, 0, none⟩ = some (.int .i64 k) ∧ W.cell? ⟨b, 1, none⟩ = some (.int .i64 d) ∧ W.cell? ⟨b, 2, none⟩ = some (.int .i64 n) ∧ Below w.heap.size w W
theorem OnS.below {w W W1 : World} {b : Nat} {k d n : Int} (h : OnS w b k d n W) (hb : Below W.heap.size W W1) : OnS w b k d n W1 :=
  ⟨Nat.lt_of_lt_of_le h.1 hb.size, (hb.cell (p := ⟨b, 0, none⟩) h.1).trans h.2.1, (hb.cell (p := ⟨b, 1, none⟩) h.1).trans h.2.2.1, (hb.cell (p := ⟨b, 2, none⟩) h.1).trans h.2.2.2.1, h.2.2.2.2.trans (hb.mono h.2.2.2.2.size)⟩
theorem OnS.drew {w W : World} {b : Nat} {k d n : Int} (h : OnS w b k d n W) : OnS w b k d n W.drew := ⟨h.1, h.2.1, h.2.2.1, h.2.2.2.1, h.2.2.2.2.drew⟩
theorem OnS.drewN {w W : World} {b : Nat} {k d n : Int} (h : OnS w b k d n W) (q : Nat) : OnS w b k d n (W.drewN q) := ⟨h.1, h.2.1, h.2.2.1, h.2.2.2.1, h.2.2.2.2.trans ⟨rfl, rfl, rfl, Nat.le_refl _, fun _ _ => rfl⟩⟩
theorem OnS.new (w : World) (k d n : Int) (t : TypeId) : OnS w w.heap.size k d n (w.alloc (.cells #[.int .i64 k, .int .i64 d, .int .i64 n] t)) :=
  ⟨by simp, by rw [World.cell?_alloc_at _ _ _ _ rfl]; rfl, by rw [World.cell?_alloc_at _ _ _ _ rfl]; rfl, by rw [World.cell?_alloc_at _ _ _ _ rfl]; rfl, (Below.refl _ _).alloc (Nat.le_refl _) _⟩

set_option maxRecDepth 100000 in
set_option maxHeartbeats 4000000 in
theorem canNum_yes (n : Int) (h1 : 1 ≤ n) (h2 : n ≤ 31) (w : World) :
    Calls Tryz.prog 143 #[.agg #[.int .i64 n]] w fun e w' => e = .returned (.bool true) ∧ Below w.heap.size w w' := by
  go_enter Tryz.func143, Tryz.ntmps143
  go_wp2
  go_ret
  exact ⟨rfl, (by repeat' (first | assumption | exact Below.refl _ _ | exact Nat.le_refl _ | refine Below.alloc ?_ ?_ _ | (simp; done) | (simp; omega) | omega))⟩

set_option maxRecDepth 100000 in
set_option maxHeartbeats 4000000 in
theorem canNum_no (n : Int) (h : n < 1 ∨ 31 < n) (w : World) :
    Calls Tryz.prog 143 #[.agg #[.int .i64 n]] w fun e w' => e = .returned (.bool false) ∧ Below w.heap.size w w' := by
  rcases h with h | h
  · have h1 : ¬ 1 ≤ n := by omega
    go_enter Tryz.func143, Tryz.ntmps143
    go_wp2
    go_ret
    exact ⟨rfl, (by repeat' (first | assumption | exact Below.refl _ _ | exact Nat.le_refl _ | refine Below.alloc ?_ ?_ _ | (simp; done) | (simp; omega) | omega))⟩
  · have h1 : 1 ≤ n := by omega
    have h2 : ¬ n ≤ 31 := by omega
    go_enter Tryz.func143, Tryz.ntmps143
    go_wp2
    go_ret
    exact ⟨rfl, (by repeat' (first | assumption | exact Below.refl _ _ | exact Nat.le_refl _ | refine Below.alloc ?_ ?_ _ | (simp; done) | (simp; omega) | omega))⟩

set_option maxRecDepth 100000 in
set_option maxHeartbeats 4000000 in
theorem canFin_yes (n : Int) (h1 : 0 ≤ n) (h2 : n ≤ 6) (w : World) :
    Calls Tryz.prog 149 #[.agg #[.int .i64 n]] w fun e w' => e = .returned (.bool true) ∧ Below w.heap.size w w' := by
  have h3 : n < 7 := by omega
  go_enter Tryz.func149, Tryz.ntmps149
  go_wp2
  go_ret
  exact ⟨rfl, (by repeat' (first | assumption | exact Below.refl _ _ | exact Nat.le_refl _ | refine Below.alloc ?_ ?_ _ | (simp; done) | (simp; omega) | omega))⟩

set_option maxRecDepth 100000 in
set_option maxHeartbeats 4000000 in
theorem canFin_no (n : Int) (h : n < 0 ∨ 6 < n) (w : World) :
    Calls Tryz.prog 149 #[.agg #[.int .i64 n]] w fun e w' => e = .returned (.bool false) ∧ Below w.heap.size w w' := by
  rcases h with h | h
  · have h1 : ¬ 0 ≤ n := by omega
    go_enter Tryz.func149, Tryz.ntmps149
    go_wp2
    go_ret
    exact ⟨rfl, (by repeat' (first | assumption | exact Below.refl _ _ | exact Nat.le_refl _ | refine Below.alloc ?_ ?_ _ | (simp; done) | (simp; omega) | omega))⟩
  · have h1 : 0 ≤ n := by omega
    have h2 : ¬ n < 7 := by omega
    go_enter Tryz.func149, Tryz.ntmps149
    go_wp2
    go_ret
    exact ⟨rfl, (by repeat' (first | assumption | exact Below.refl _ _ | exact Nat.le_refl _ | refine Below.alloc ?_ ?_ _ | (simp; done) | (simp; omega) | omega))⟩

set_option maxRecDepth 100000 in
set_option maxHeartbeats 4000000 in
theorem canBes_yes (d n : Int) (b : Bool) (h1 : 0 ≤ d) (h2 : d ≤ 6) (h3 : 1 ≤ n) (h4 : n ≤ 31) (w : World) :
    Calls Tryz.prog 146 #[.agg #[.int .i64 d, .int .i64 n, .bool b]] w fun e w' => e = .returned (.bool true) ∧ Below w.heap.size w w' := by
  have h5 : d < 7 := by omega
  go_enter Tryz.func146, Tryz.ntmps146
  go_wp2
  go_ret
  exact ⟨rfl, (by repeat' (first | assumption | exact Below.refl _ _ | exact Nat.le_refl _ | refine Below.alloc ?_ ?_ _ | (simp; done) | (simp; omega) | omega))⟩

set_option maxRecDepth 100000 in
set_option maxHeartbeats 4000000 in
theorem canBes_no (d n : Int) (b : Bool) (h : d < 0 ∨ 6 < d ∨ (0 ≤ d ∧ d ≤ 6 ∧ n < 1) ∨ (0 ≤ d ∧ d ≤ 6 ∧ 31 < n)) (w : World) :
    Calls Tryz.prog 146 #[.agg #[.int .i64 d, .int .i64 n, .bool b]] w fun e w' => e = .returned (.bool false) ∧ Below w.heap.size w w' := by
  rcases h with h | h | ⟨h1, h2, h3⟩ | ⟨h1, h2, h3⟩
  · have h1 : ¬ 0 ≤ d := by omega
    go_enter Tryz.func146, Tryz.ntmps146
    go_wp2
    go_ret
    exact ⟨rfl, (by repeat' (first | assumption | exact Below.refl _ _ | exact Nat.le_refl _ | refine Below.alloc ?_ ?_ _ | (simp; done) | (simp; omega) | omega))⟩
  · have h1 : 0 ≤ d := by omega
    have h2 : ¬ d < 7 := by omega
    go_enter Tryz.func146, Tryz.ntmps146
    go_wp2
    go_ret
    exact ⟨rfl, (by repeat' (first | assumption | exact Below.refl _ _ | exact Nat.le_refl _ | refine Below.alloc ?_ ?_ _ | (simp; done) | (simp; omega) | omega))⟩
  · have h4 : d < 7 := by omega
    have h5 : ¬ 1 ≤ n := by omega
    go_enter Tryz.func146, Tryz.ntmps146
    go_wp2
    go_ret
    exact ⟨rfl, (by repeat' (first | assumption | exact Below.refl _ _ | exact Nat.le_refl _ | refine Below.alloc ?_ ?_ _ | (simp; done) | (simp; omega) | omega))⟩
  · have h4 : d < 7 := by omega
    have h5 : 1 ≤ n := by omega
    have h6 : ¬ n ≤ 31 := by omega
    go_enter Tryz.func146, Tryz.ntmps146
    go_wp2
    go_ret
    exact ⟨rfl, (by repeat' (first | assumption | exact Below.refl _ _ | exact Nat.le_refl _ | refine Below.alloc ?_ ?_ _ | (simp; done) | (simp; omega) | omega))⟩

set_option maxRecDepth 100000 in
set_option maxHeartbeats 4000000 in
theorem onNum (n : Int) (w : World) :
    Calls Tryz.prog 144 #[.agg #[.int .i64 n]] w fun e w' => e = .returned (.agg #[.int .i64 0, .int .i64 0, .int .i64 n]) ∧ Below w.heap.size w w' := by
  go_enter Tryz.func144, Tryz.ntmps144
  go_wp2
  refine bodyPost_ret (v := .agg #[.int .i64 0, .int .i64 0, .int .i64 n]) (by simp [results, Tryz.results144, go_sem]) rfl ⟨rfl, (by repeat' (first | assumption | exact Below.refl _ _ | exact Nat.le_refl _ | refine Below.alloc ?_ ?_ _ | (simp; done) | (simp; omega) | omega))⟩

set_option maxRecDepth 100000 in
set_option maxHeartbeats 4000000 in
theorem onFin (d : Int) (w : World) :
    Calls Tryz.prog 150 #[.agg #[.int .i64 d]] w fun e w' => e = .returned (.agg #[.int .i64 1, .int .i64 d, .int .i64 0]) ∧ Below w.heap.size w w' := by
  go_enter Tryz.func150, Tryz.ntmps150
  go_wp2
  refine bodyPost_ret (v := .agg #[.int .i64 1, .int .i64 d, .int .i64 0]) (by simp [results, Tryz.results150, go_sem]) rfl ⟨rfl, (by repeat' (first | assumption | exact Below.refl _ _ | exact Nat.le_refl _ | refine Below.alloc ?_ ?_ _ | (simp; done) | (simp; omega) | omega))⟩

set_option maxRecDepth 100000 in
set_option maxHeartbeats 4000000 in
theorem onBesT (d n : Int) (w : World) :
    Calls Tryz.prog 147 #[.agg #[.int .i64 d, .int .i64 n, .bool true]] w fun e w' => e = .returned (.agg #[.int .i64 3, .int .i64 d, .int .i64 n]) ∧ Below w.heap.size w w' := by
  go_enter Tryz.func147, Tryz.ntmps147
  go_wp2
  refine bodyPost_ret (v := .agg #[.int .i64 3, .int .i64 d, .int .i64 n]) (by simp [results, Tryz.results147, go_sem]) rfl ⟨rfl, (by repeat' (first | assumption | exact Below.refl _ _ | exact Nat.le_refl _ | refine Below.alloc ?_ ?_ _ | (simp; done) | (simp; omega) | omega))⟩

set_option maxRecDepth 100000 in
set_option maxHeartbeats 4000000 in
theorem onBesF (d n : Int) (w : World) :
    Calls Tryz.prog 147 #[.agg #[.int .i64 d, .int .i64 n, .bool false]] w fun e w' => e = .returned (.agg #[.int .i64 2, .int .i64 d, .int .i64 n]) ∧ Below w.heap.size w w' := by
  go_enter Tryz.func147, Tryz.ntmps147
  go_wp2
  refine bodyPost_ret (v := .agg #[.int .i64 2, .int .i64 d, .int .i64 n]) (by simp [results, Tryz.results147, go_sem]) rfl ⟨rfl, (by repeat' (first | assumption | exact Below.refl _ _ | exact Nat.le_refl _ | refine Below.alloc ?_ ?_ _ | (simp; done) | (simp; omega) | omega))⟩

end Go.Proofs.YthhpdjjfbfkgiaaGreatDoor
/- Contracts: the readers of src, each over what its callee answers. -/
namespace Go.Proofs.YthhpdjjfbfkgiaaGreatDoor
open Go.RowKit
set_option linter.unusedVariables false

theorem NBs {w W w1 : World} (hb : Below W.heap.size W w1) (h : Below w.heap.size w W := by first | exact Below.refl _ _ | exact Below.alloc (Below.refl _ _) (Nat.le_refl _) _) : Below w.heap.size w w1 := Below.trans h (hb.mono (Below.size h))

set_option maxRecDepth 100000 in
set_option maxHeartbeats 4000000 in
theorem nameR (s : ByteArray) (b : Bool) (C : Hid (∀ w : World, Calls Tryz.prog 96 #[.string s] w fun e w' => e = .returned (.bool b) ∧ Below w.heap.size w w')) (w : World) :
    Calls Tryz.prog 103 #[.agg #[], .string s] w fun e w' => e = .returned (.tuple #[.iface 9 (.string s), .bool b]) ∧ Below w.heap.size w w' := by
  go_enter Tryz.func103, Tryz.ntmps103
  go_wp2_with fail
  refine (C.out _).mono ?_
  rintro e w1 ⟨rfl, hb⟩
  go_wp2
  go_ret2
  exact ⟨rfl, NBs hb⟩

set_option maxRecDepth 100000 in
set_option maxHeartbeats 4000000 in
theorem noneR (s : ByteArray) (w : World) :
    Calls Tryz.prog 114 #[.agg #[], .string s] w fun e w' => e = .returned (.tuple #[.iface 9 (.string s), .bool (s.toList == [45])]) ∧ Below w.heap.size w w' := by
  go_enter Tryz.func114, Tryz.ntmps114
  go_wp2
  go_ret2
  exact ⟨rfl, NBs (Below.refl _ _)⟩

set_option maxRecDepth 100000 in
set_option maxHeartbeats 4000000 in
theorem monthR (s : ByteArray) (m : Int) (C : Hid (∀ w : World, Calls Tryz.prog 116 #[.string s] w fun e w' => e = .returned (.int .i64 m) ∧ Below w.heap.size w w')) (w : World) :
    Calls Tryz.prog 115 #[.agg #[], .string s] w fun e w' => e = .returned (.tuple #[.iface 2 (.int .i64 m), .bool (m != 0)]) ∧ Below w.heap.size w w' := by
  go_enter Tryz.func115, Tryz.ntmps115
  go_wp2_with fail
  refine (C.out _).mono ?_
  rintro e w1 ⟨rfl, hb⟩
  go_wp2
  go_ret2
  exact ⟨rfl, NBs hb⟩

def yearB (s : ByteArray) (y E : Int) : Bool := decide (E = 0) && decide (s.size = 4) && decide (1800 ≤ y) && decide (y ≤ 2100)

set_option maxRecDepth 100000 in
set_option maxHeartbeats 4000000 in
theorem yearR (s : ByteArray) (y E : Int) (C : Hid (∀ w : World, Calls Tryz.prog 105 #[.string s] w fun e w' => e = .returned (.tuple #[.int .i64 y, .int .i64 E]) ∧ Below w.heap.size w w')) (w : World) :
    Calls Tryz.prog 104 #[.agg #[], .string s] w fun e w' => e = .returned (.tuple #[.iface 2 (.int .i64 y), .bool (yearB s y E)]) ∧ Below w.heap.size w w' := by
  have fin : ∀ b : Bool, b = yearB s y E → Ending.returned (.tuple #[.iface 2 (.int .i64 y), .bool b]) = .returned (.tuple #[.iface 2 (.int .i64 y), .bool (yearB s y E)]) := fun b h => by rw [h]
  go_enter Tryz.func104, Tryz.ntmps104
  go_wp2_with fail
  refine (C.out _).mono ?_
  rintro e w1 ⟨rfl, hb⟩
  go_wp2
  all_goals (go_ret2; exact ⟨fin _ (by simp [yearB] <;> omega), NBs hb⟩)

set_option maxRecDepth 100000 in
set_option maxHeartbeats 4000000 in
theorem onR (s : ByteArray) (a b c E : Int) (C : Hid (∀ w : World, Calls Tryz.prog 121 #[.string s] w fun e w' => e = .returned (.tuple #[.agg #[.int .i64 a, .int .i64 b, .int .i64 c], .int .i64 E]) ∧ Below w.heap.size w w')) (w : World) :
    Calls Tryz.prog 120 #[.agg #[], .string s] w fun e w' => e = .returned (.tuple #[.iface 60 (.agg #[.int .i64 a, .int .i64 b, .int .i64 c]), .bool (E == 0)]) ∧ Below w.heap.size w w' := by
  go_enter Tryz.func120, Tryz.ntmps120
  go_wp2_with fail
  refine (C.out _).mono ?_
  rintro e w1 ⟨rfl, hb⟩
  go_wp2
  go_ret2
  exact ⟨rfl, NBs (Below.alloc (Below.refl _ _) (Nat.le_refl _) _) (NBs hb)⟩

set_option maxRecDepth 100000 in
set_option maxHeartbeats 4000000 in
theorem atR (s : ByteArray) (a b E : Int) (C : Hid (∀ w : World, Calls Tryz.prog 129 #[.string s] w fun e w' => e = .returned (.tuple #[.agg #[.int .i64 a, .int .u8 b], .int .i64 E]) ∧ Below w.heap.size w w')) (w : World) :
    Calls Tryz.prog 128 #[.agg #[], .string s] w fun e w' => e = .returned (.tuple #[.iface 61 (.agg #[.int .i64 a, .int .u8 b]), .bool (E == 0)]) ∧ Below w.heap.size w w' := by
  go_enter Tryz.func128, Tryz.ntmps128
  go_wp2_with fail
  refine (C.out _).mono ?_
  rintro e w1 ⟨rfl, hb⟩
  go_wp2
  go_ret2
  exact ⟨rfl, NBs (Below.alloc (Below.refl _ _) (Nat.le_refl _) _) (NBs hb)⟩

set_option maxRecDepth 100000 in
set_option maxHeartbeats 4000000 in
theorem toR_only (s : ByteArray) (C : Hid (∀ w : World, Calls Tryz.prog 47 #[.string s, .string ⟨#[111, 110, 108, 121]⟩] w fun e w' => e = .returned (.bool true) ∧ Below w.heap.size w w')) (w : World) :
    Calls Tryz.prog 113 #[.agg #[], .string s] w fun e w' => e = .returned (.tuple #[.iface 2 (.int .i64 0), .bool true]) ∧ Below w.heap.size w w' := by
  go_enter Tryz.func113, Tryz.ntmps113
  go_wp2_with fail
  refine (C.out _).mono ?_
  rintro e w1 ⟨rfl, hb⟩
  go_wp2
  go_ret2
  exact ⟨rfl, NBs hb⟩

set_option maxRecDepth 100000 in
set_option maxHeartbeats 4000000 in
theorem toR_max (s : ByteArray) (C : Hid (∀ w : World, Calls Tryz.prog 47 #[.string s, .string ⟨#[111, 110, 108, 121]⟩] w fun e w' => e = .returned (.bool false) ∧ Below w.heap.size w w'))(D : Hid (∀ w : World, Calls Tryz.prog 47 #[.string s, .string ⟨#[109, 97, 120]⟩] w fun e w' => e = .returned (.bool true) ∧ Below w.heap.size w w')) (w : World) :
    Calls Tryz.prog 113 #[.agg #[], .string s] w fun e w' => e = .returned (.tuple #[.iface 2 (.int .i64 1073741824), .bool true]) ∧ Below w.heap.size w w' := by
  go_enter Tryz.func113, Tryz.ntmps113
  go_wp2_with fail
  refine (C.out _).mono ?_
  rintro e w1 ⟨rfl, hb⟩
  go_wp2_with fail
  refine (D.out _).mono ?_
  rintro e w2 ⟨rfl, hb2⟩
  go_wp2
  go_ret2
  exact ⟨rfl, NBs hb2 (NBs hb)⟩

set_option maxRecDepth 100000 in
set_option maxHeartbeats 4000000 in
theorem toR_year (s : ByteArray) (v : Value) (b : Bool) (C : Hid (∀ w : World, Calls Tryz.prog 47 #[.string s, .string ⟨#[111, 110, 108, 121]⟩] w fun e w' => e = .returned (.bool false) ∧ Below w.heap.size w w'))(D : Hid (∀ w : World, Calls Tryz.prog 47 #[.string s, .string ⟨#[109, 97, 120]⟩] w fun e w' => e = .returned (.bool false) ∧ Below w.heap.size w w'))(Y : Hid (∀ w : World, Calls Tryz.prog 104 #[.agg #[], .string s] w fun e w' => e = .returned (.tuple #[v, .bool b]) ∧ Below w.heap.size w w')) (w : World) :
    Calls Tryz.prog 113 #[.agg #[], .string s] w fun e w' => e = .returned (.tuple #[v, .bool b]) ∧ Below w.heap.size w w' := by
  go_enter Tryz.func113, Tryz.ntmps113
  go_wp2_with fail
  refine (C.out _).mono ?_
  rintro e w1 ⟨rfl, hb⟩
  go_wp2_with fail
  refine (D.out _).mono ?_
  rintro e w2 ⟨rfl, hb2⟩
  go_wp2_with fail
  refine (Y.out _).mono ?_
  rintro e w3 ⟨rfl, hb3⟩
  go_wp2
  go_ret2
  exact ⟨rfl, NBs hb3 (NBs hb2 (NBs hb))⟩

set_option maxRecDepth 100000 in
set_option maxHeartbeats 4000000 in
theorem saveR (w : World) :
    Calls Tryz.prog 46 #[] w fun e w' => e = .returned (.iface 152 (.agg #[.int .i64 0, .int .i64 7200])) ∧ Below w.heap.size w w' := by
  go_enter Tryz.func46, Tryz.ntmps46
  go_wp2
  go_ret
  exact ⟨rfl, Below.refl _ _⟩

set_option maxRecDepth 100000 in
set_option maxHeartbeats 4000000 in
theorem offsetR (w : World) :
    Calls Tryz.prog 44 #[] w fun e w' => e = .returned (.iface 152 (.agg #[.int .i64 (-50400), .int .i64 50400])) ∧ Below w.heap.size w w' := by
  go_enter Tryz.func44, Tryz.ntmps44
  go_wp2
  go_ret
  exact ⟨rfl, Below.refl _ _⟩

end Go.Proofs.YthhpdjjfbfkgiaaGreatDoor
