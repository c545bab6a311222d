/- Contracts of clock.Text, clock.Long, clock.Offset. -/
import Derived.Test.YtdkodkkbggdpbabDoorClkD
namespace Go.Proofs.YtdkodkkbggdpbabDoor.Clk
open Go.RowKit
set_option linter.unusedVariables false

/-- a time of a day as a text. -/
def textB (t : Int) : ByteArray := faceB (t / 3600000000) (t / 60000000 % 60) (t / 1000000 % 60) (t % 1000000)

/-- a span of time as a text. -/
def longB (us : Int) : ByteArray := if us < 0 then ⟨#[45]⟩ ++ faceB (-(us.tdiv 3600000000)) (-((us.tdiv 60000000).tmod 60)) (-((us.tdiv 1000000).tmod 60)) (-(us.tmod 1000000)) else faceB (us.tdiv 3600000000) ((us.tdiv 60000000).tmod 60) ((us.tdiv 1000000).tmod 60) (us.tmod 1000000)

theorem faceB_size {h m s us : Int} (h1 : -9223372036854775808 ≤ h) (h2 : h ≤ 9223372036854775807) (m1 : -9223372036854775808 ≤ m) (m2 : m ≤ 9223372036854775807) (s1 : -9223372036854775808 ≤ s) (s2 : s ≤ 9223372036854775807) : (faceB h m s us).size ≤ 100 := by
  have a := twoB_size h1 h2
  have b := twoB_size m1 m2
  have c := twoB_size s1 s2
  have d := fracB_size us
  unfold faceB
  simp only [ByteArray.size_append]
  have e : (⟨#[58]⟩ : ByteArray).size = 1 := rfl
  omega

theorem tmod60 (a : Int) : -60 ≤ a.tmod 60 ∧ a.tmod 60 ≤ 60 := by
  have e : (a.tmod 60).natAbs = a.natAbs % 60 := Int.natAbs_tmod a 60
  omega
theorem tmodM (a : Int) : -1000000 ≤ a.tmod 1000000 ∧ a.tmod 1000000 ≤ 1000000 := by
  have e : (a.tmod 1000000).natAbs = a.natAbs % 1000000 := Int.natAbs_tmod a 1000000
  omega
theorem tdivK {a : Int} (k : Nat) (hk : 2 ≤ k) (h1 : -9223372036854775808 ≤ a) (h2 : a ≤ 9223372036854775807) : -4611686018427387904 ≤ a.tdiv k ∧ a.tdiv k ≤ 4611686018427387904 := by
  have e : (a.tdiv k).natAbs = a.natAbs / k := by rw [Int.natAbs_tdiv]; rfl
  have l : a.natAbs / k ≤ a.natAbs / 2 := Nat.div_le_div_left hk (by omega)
  omega

end Go.Proofs.YtdkodkkbggdpbabDoor.Clk
