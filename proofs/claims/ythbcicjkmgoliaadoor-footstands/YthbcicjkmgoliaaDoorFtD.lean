/- A small number's text, by strconv.FormatInt. -/
import Derived.Test.YthbcicjkmgoliaaDoorWhnD
import Derived.Test.YthbcicjkmgoliaaDoorClkC
import Derived.Lib.ItoaLen
namespace Go.Proofs.YthbcicjkmgoliaaDoor
open Go.RowKit
set_option linter.unusedVariables false

theorem sizeL (l : List UInt8) : (⟨l.toArray⟩ : ByteArray).size = l.length := by simp [ByteArray.size]
def digB (n : Int) : ByteArray := ⟨(Lib.itoa n).toArray⟩
theorem itoa_nat (i : Nat) : Lib.itoa (i : Int) = Lib.decDigits i := by unfold Lib.itoa; rw [if_neg (by omega)]; simp
theorem format_small (n : Int) (h0 : 0 ≤ n) (h1 : n < 100) (w : World) : Calls Tryd.prog 53 #[.int .i64 n, .int .i64 10] w fun e w' => e = .returned (.string (digB n)) ∧ w' = w := by
  obtain ⟨i, rfl⟩ : ∃ i : Nat, n = (i : Int) := ⟨n.toNat, by omega⟩
  have R := Tryd.strconv_FormatInt_10_small i (by omega) w
  unfold digB
  rw [itoa_nat]
  exact R
theorem digB_size (n : Int) (h0 : 0 ≤ n) (h1 : n < 100) : (digB n).size ≤ 21 := by
  have := Lib.itoa_length_le n (by omega) (by omega)
  unfold digB
  rw [sizeL]
  omega

end Go.Proofs.YthbcicjkmgoliaaDoor
