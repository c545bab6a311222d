/- Contracts of clock.Fraction, clock.face, clock.Text, clock.Long, clock.Offset. -/
import Derived.Test.YtdkodkkbggdpbabDoorClkC
import Derived.Lib.TrimByte
namespace Go.Proofs.YtdkodkkbggdpbabDoor.Clk
open Go.RowKit
set_option linter.unusedVariables false

/-- what stands behind the seconds. -/
def fracS (us : Int) : ByteArray := (⟨(Lib.itoa (1000000 + us)).toArray⟩ : ByteArray).extract 1 (⟨(Lib.itoa (1000000 + us)).toArray⟩ : ByteArray).size
def fracT (us : Int) : ByteArray := ⟨(Lib.trimRightB (fracS us).data.toList 48).toArray⟩
def fracB (us : Int) : ByteArray := if 1 ≤ us ∧ us ≤ 999999 then ⟨#[46]⟩ ++ fracT us else ⟨#[]⟩

theorem itoa7 {us : Int} (h1 : 1 ≤ us) (h2 : us ≤ 999999) : (⟨(Lib.itoa (1000000 + us)).toArray⟩ : ByteArray).size = 7 := by
  have e : (⟨(Lib.itoa (1000000 + us)).toArray⟩ : ByteArray).size = (Lib.itoa (1000000 + us)).length := rfl
  rw [e]
  unfold Lib.itoa
  rw [if_neg (by omega), Lib.decDigits_length]
  exact Lib.nDigits_unique 6 _ (by simp; omega) (by simp; omega)
theorem fracS_size {us : Int} (h1 : 1 ≤ us) (h2 : us ≤ 999999) : (fracS us).size = 6 := by
  unfold fracS
  rw [itoa7 h1 h2, ByteArray.size_extract, itoa7 h1 h2]; rfl
theorem trim_len (c : UInt8) (l : List UInt8) : (Lib.trimRightB l c).length ≤ l.length := by
  unfold Lib.trimRightB
  rw [List.length_reverse]
  exact Nat.le_trans (List.dropWhile_sublist _).length_le (by rw [List.length_reverse]; exact Nat.le_refl _)
theorem fracT_size {us : Int} (h1 : 1 ≤ us) (h2 : us ≤ 999999) : (fracT us).size ≤ 6 := by
  have e : (fracT us).size = (Lib.trimRightB (fracS us).data.toList 48).length := rfl
  have f : (fracS us).data.toList.length = (fracS us).size := by simp
  rw [e]
  have := trim_len 48 (fracS us).data.toList
  rw [f, fracS_size h1 h2] at this
  exact this
theorem fracB_size (us : Int) : (fracB us).size ≤ 7 := by
  unfold fracB
  split
  · rename_i h
    have := fracT_size h.1 h.2
    rw [ByteArray.size_append]; show 1 + (fracT us).size ≤ 7; omega
  · exact Nat.zero_le _

/-- a clock's face. -/
def faceB (h m s us : Int) : ByteArray := twoB h ++ ⟨#[58]⟩ ++ twoB m ++ ⟨#[58]⟩ ++ twoB s ++ fracB us

end Go.Proofs.YtdkodkkbggdpbabDoor.Clk
