/- Contracts of the reference's small functions on bytes: blank, digit, letter, long. -/
import Derived.Test.YtgnfkkcagbbhmaaGreatDoorWdBq
namespace Go.Proofs.YtgnfkkcagbbhmaaGreatDoor.Wrd
open Go.RowKit
set_option linter.unusedVariables false

set_option maxRecDepth 100000 in
set_option maxHeartbeats 1000000 in
theorem digit_any (c : Nat) (hc : c < 256) (w : World) : Calls Tryz.prog 131 #[.int .u8 (c : Int)] w fun e w' => e = .returned (.bool (digitN c)) ∧ w' = w := by
  by_cases h1 : 48 ≤ c
  · have h1' : (48 : Int) ≤ (c : Int) := by omega
    by_cases h2 : c ≤ 57
    · have h2' : (c : Int) ≤ 57 := by omega
      rw [show digitN c = true by simp [digitN, h1, h2]]
      go_enter Tryz.func131, Tryz.ntmps131
      go_wp2_with fail
      go_ret
      exact ⟨rfl, rfl⟩
    · have h2' : decide ((c : Int) ≤ 57) = false := decide_eq_false (by omega)
      rw [show digitN c = false by simp [digitN]; omega]
      go_enter Tryz.func131, Tryz.ntmps131
      go_wp2_with fail
      go_ret
      exact ⟨rfl, rfl⟩
  · have h1' : ¬ (48 : Int) ≤ (c : Int) := by omega
    rw [show digitN c = false by simp [digitN]; omega]
    go_enter Tryz.func131, Tryz.ntmps131
    go_wp2_with fail
    go_ret
    exact ⟨rfl, rfl⟩

theorem byte_eq (s : ByteArray) (i : Nat) (h : i < s.size) : ((s[i]'h).toNat : Int) = (bt s i : Int) := by rw [(bt_get s i h).2]

/-- the classes of a first byte. -/
def Cls (c n lo hh : Nat) : Prop :=
  (194 ≤ c ∧ c ≤ 223 ∧ n = 2 ∧ lo = 128 ∧ hh = 191) ∨ (c = 224 ∧ n = 3 ∧ lo = 160 ∧ hh = 191) ∨ (c = 237 ∧ n = 3 ∧ lo = 128 ∧ hh = 159) ∨ ((225 ≤ c ∧ c ≤ 239 ∧ c ≠ 237) ∧ n = 3 ∧ lo = 128 ∧ hh = 191) ∨
  (c = 240 ∧ n = 4 ∧ lo = 144 ∧ hh = 191) ∨ (c = 244 ∧ n = 4 ∧ lo = 128 ∧ hh = 143) ∨ ((241 ≤ c ∧ c ≤ 243) ∧ n = 4 ∧ lo = 128 ∧ hh = 191)
instance (c n lo hh : Nat) : Decidable (Cls c n lo hh) := by unfold Cls; infer_instance
end Go.Proofs.YtgnfkkcagbbhmaaGreatDoor.Wrd
