/- Contracts of the reference's small functions on bytes: blank, digit, letter, long. -/
import Derived.Test.YtaoocecipacnhaaDoorWdEq
namespace Go.Proofs.YtaoocecipacnhaaDoor
open Go.RowKit
set_option linter.unusedVariables false

set_option maxRecDepth 100000 in
set_option maxHeartbeats 1000000 in
theorem blank_any (c : Nat) (hc : c < 256) (w : World) : Calls Tryd.prog 30 #[.int .u8 (c : Int)] w fun e w' => e = .returned (.bool (blankN c)) ∧ w' = w := by
  cases hb : blankN c with
  | true =>
    have h : c = 32 ∨ c = 9 ∨ c = 10 ∨ c = 13 := by simpa [blankN, or_assoc] using hb
    clear hb
    rcases h with rfl | rfl | rfl | rfl
    all_goals
      go_enter Tryd.func30, Tryd.ntmps30
      go_wp2_with fail
      go_ret
      exact ⟨rfl, rfl⟩
  | false =>
    have h : ¬ (c = 32 ∨ c = 9 ∨ c = 10 ∨ c = 13) := fun q => by
      have : blankN c = true := by simpa [blankN, or_assoc] using q
      rw [hb] at this; exact absurd this (by decide)
    have b1 : ((c : Int) == 32) = false := by simp; omega
    have b2 : ((c : Int) == 9) = false := by simp; omega
    have b3 : ((c : Int) == 10) = false := by simp; omega
    have b4 : ((c : Int) == 13) = false := by simp; omega
    clear hb h
    go_enter Tryd.func30, Tryd.ntmps30
    go_wp2_with fail
    go_ret
    exact ⟨rfl, rfl⟩

set_option maxRecDepth 100000 in
set_option maxHeartbeats 1000000 in
theorem digit_any (c : Nat) (hc : c < 256) (w : World) : Calls Tryd.prog 31 #[.int .u8 (c : Int)] w fun e w' => e = .returned (.bool (digitN c)) ∧ w' = w := by
  by_cases h1 : 48 ≤ c
  · have h1' : (48 : Int) ≤ (c : Int) := by omega
    by_cases h2 : c ≤ 57
    · have h2' : (c : Int) ≤ 57 := by omega
      rw [show digitN c = true by simp [digitN, h1, h2]]
      go_enter Tryd.func31, Tryd.ntmps31
      go_wp2_with fail
      go_ret
      exact ⟨rfl, rfl⟩
    · have h2' : decide ((c : Int) ≤ 57) = false := decide_eq_false (by omega)
      rw [show digitN c = false by simp [digitN]; omega]
      go_enter Tryd.func31, Tryd.ntmps31
      go_wp2_with fail
      go_ret
      exact ⟨rfl, rfl⟩
  · have h1' : ¬ (48 : Int) ≤ (c : Int) := by omega
    rw [show digitN c = false by simp [digitN]; omega]
    go_enter Tryd.func31, Tryd.ntmps31
    go_wp2_with fail
    go_ret
    exact ⟨rfl, rfl⟩

theorem letter_iff (c : Nat) : letterN c = true ↔ ((97 ≤ c ∧ c ≤ 122) ∨ (65 ≤ c ∧ c ≤ 90) ∨ c = 95 ∨ 127 < c) := by
  simp [letterN, or_assoc]

set_option maxRecDepth 100000 in
set_option maxHeartbeats 1000000 in
theorem letter_any (c : Nat) (hc : c < 256) (w : World) : Calls Tryd.prog 32 #[.int .u8 (c : Int)] w fun e w' => e = .returned (.bool (letterN c)) ∧ w' = w := by
  obtain ⟨B, hB⟩ : ∃ B, letterN c = B := ⟨_, rfl⟩
  have hi := letter_iff c
  rw [hB] at hi ⊢
  have HI : Hid (B = true ↔ ((97 ≤ c ∧ c ≤ 122) ∨ (65 ≤ c ∧ c ≤ 90) ∨ c = 95 ∨ 127 < c)) := hi
  clear hi hB
  go_enter Tryd.func32, Tryd.ntmps32
  go_wp2_with fail
  all_goals
    go_ret
    refine ⟨ret_bool ?_, rfl⟩
    have := HI.out
    cases B <;> simp at this ⊢ <;> omega

theorem byte_eq (s : ByteArray) (i : Nat) (h : i < s.size) : ((s[i]'h).toNat : Int) = (bt s i : Int) := by rw [(bt_get s i h).2]

set_option maxRecDepth 100000 in
set_option maxHeartbeats 4000000 in
theorem long_low (s : ByteArray) (i : Nat) (hs : s.size ≤ 2048) (hi : i < s.size) (h : bt s i < 128) (w : World) :
    Calls Tryd.prog 29 #[.string s, .int .i64 (i : Int)] w fun e w' => e = .returned (.int .i64 1) ∧ w' = w := by
  have hb := byte_eq s i hi
  have hi' : (i : Int) < (s.size : Int) := by omega
  have h' : (bt s i : Int) < 128 := by omega
  go_enter Tryd.func29, Tryd.ntmps29
  go_wp2_with fail
  go_ret
  exact ⟨rfl, rfl⟩

/-- the classes of a first byte. -/
def Cls (c n lo hh : Nat) : Prop :=
  (194 ≤ c ∧ c ≤ 223 ∧ n = 2 ∧ lo = 128 ∧ hh = 191) ∨ (c = 224 ∧ n = 3 ∧ lo = 160 ∧ hh = 191) ∨ (c = 237 ∧ n = 3 ∧ lo = 128 ∧ hh = 159) ∨ ((225 ≤ c ∧ c ≤ 239 ∧ c ≠ 237) ∧ n = 3 ∧ lo = 128 ∧ hh = 191) ∨
  (c = 240 ∧ n = 4 ∧ lo = 144 ∧ hh = 191) ∨ (c = 244 ∧ n = 4 ∧ lo = 128 ∧ hh = 143) ∨ ((241 ≤ c ∧ c ≤ 243) ∧ n = 4 ∧ lo = 128 ∧ hh = 191)
instance (c n lo hh : Nat) : Decidable (Cls c n lo hh) := by unfold Cls; infer_instance
theorem cls_all : ∀ c : Fin 256, 128 ≤ c.val → rN c.val ≠ 0 → Cls c.val (rN c.val) (rLo c.val) (rHi c.val) := by decide +kernel
theorem cls_of (c : Nat) (h : 128 ≤ c) (hc : c < 256) (h0 : rN c ≠ 0) : Cls c (rN c) (rLo c) (rHi c) := cls_all ⟨c, hc⟩ h h0

set_option maxRecDepth 100000 in
set_option maxHeartbeats 4000000 in
theorem long_none (s : ByteArray) (i c : Nat) (hs : s.size ≤ 2048) (hi : i < s.size) (hc : bt s i = c) (h : 128 ≤ c) (h2 : c < 194 ∨ 244 < c) (hz : c < 256) (w : World) :
    Calls Tryd.prog 29 #[.string s, .int .i64 (i : Int)] w fun e w' => e = .returned (.int .i64 0) ∧ w' = w := by
  have hb := byte_eq s i hi
  rw [hc] at hb
  have hi' : (i : Int) < (s.size : Int) := by omega
  have h' : ¬ (c : Int) < 128 := by omega
  rcases h2 with h2 | h2
  · have x1 : ¬ (194 : Int) ≤ (c : Int) := by omega
    have x2 : ¬ (224 : Int) ≤ (c : Int) := by omega
    have x3 : ¬ (240 : Int) ≤ (c : Int) := by omega
    go_enter Tryd.func29, Tryd.ntmps29
    go_wp2_with fail
    go_ret
    exact ⟨rfl, rfl⟩
  · have x1 : (194 : Int) ≤ (c : Int) := by omega
    have x2 : (224 : Int) ≤ (c : Int) := by omega
    have x3 : (240 : Int) ≤ (c : Int) := by omega
    have y1 : ¬ (c : Int) ≤ 223 := by omega
    have y2 : ¬ (c : Int) ≤ 239 := by omega
    have y3 : ¬ (c : Int) ≤ 244 := by omega
    go_enter Tryd.func29, Tryd.ntmps29
    go_wp2_with fail
    go_ret
    exact ⟨rfl, rfl⟩


end Go.Proofs.YtaoocecipacnhaaDoor
