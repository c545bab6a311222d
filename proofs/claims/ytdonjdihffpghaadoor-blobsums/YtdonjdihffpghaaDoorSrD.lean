/- Contracts: src.isLetter, src.isDigit, letterReader.read. -/
import Derived.Test.YtdonjdihffpghaaDoorBlH
import Derived.Test.YtdonjdihffpghaaDoorLnB
namespace Go.Proofs.YtdonjdihffpghaaDoor
open Go.RowKit Lin
set_option linter.unusedVariables false

def isL (R : Int) : Bool := decide (97 ≤ R ∧ R ≤ 122) || decide (65 ≤ R ∧ R ≤ 90)
def isD (R : Int) : Bool := decide (48 ≤ R ∧ R ≤ 57)
theorem ret_bl {a b : Bool} (h : a = b) : Ending.returned (.bool a) = .returned (.bool b) := by rw [h]

set_option maxRecDepth 100000 in
set_option maxHeartbeats 4000000 in
theorem isLetter_any (R : Int) (w : World) : Calls Tryd.prog 29 #[.int .i32 R] w fun e w' => e = .returned (.bool (isL R)) ∧ w' = w := by
  go_enter Tryd.func29, Tryd.ntmps29
  go_wp2
  all_goals (go_ret; exact ⟨ret_bl (by unfold isL; by_cases a1 : 97 ≤ R <;> by_cases a2 : R ≤ 122 <;> by_cases a3 : 65 ≤ R <;> by_cases a4 : R ≤ 90 <;> simp_all <;> omega), rfl⟩)

set_option maxRecDepth 100000 in
set_option maxHeartbeats 4000000 in
theorem isDigit_any (R : Int) (w : World) : Calls Tryd.prog 30 #[.int .i32 R] w fun e w' => e = .returned (.bool (isD R)) ∧ w' = w := by
  go_enter Tryd.func30, Tryd.ntmps30
  go_wp2
  all_goals (go_ret; exact ⟨ret_bl (by simp [isD] <;> omega), rfl⟩)

/-- a letter or a digit. -/
def isLD (R : Int) : Bool := isL R || isD R
theorem isLD_high {R : Int} (h : 128 ≤ R) : isLD R = false := by simp [isLD, isL, isD]; omega
def allLD (l : List UInt8) : Bool := l.all fun c => isLD (c.toNat : Int)
def ltrO (s : ByteArray) : ByteArray × Bool :=
  if s.toList = [45] then (⟨#[]⟩, true) else if allLD s.data.toList = true then (s, decide (s.size ≠ 0) && decide (s.size ≤ 8)) else (⟨#[]⟩, false)

theorem drop_cons {s : ByteArray} {k : Nat} (h : k < s.size) : ∃ c : UInt8, s.data.toList.drop k = c :: s.data.toList.drop (k + 1) ∧ s[k]'h = c := by
  refine ⟨s[k]'h, ?_, rfl⟩
  rw [List.drop_eq_getElem_cons (by simpa using h)]
  rfl

end Go.Proofs.YtdonjdihffpghaaDoor
