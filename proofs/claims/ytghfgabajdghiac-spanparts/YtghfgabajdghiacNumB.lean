/- Contracts of math/bits.Len64, LeadingZeros64, Mul64, as this program's own translation has them. -/
import Derived.Test.YtghfgabajdghiacNumA
import Derived.Lib.Strings
import Derived.Lib.Slices
import Derived.Lib.Small
import Derived.Lib.Walk
import Derived.Lib.BitFns
import Derived.Lib.Mul64
import Derived.Laws.Bits64b
namespace Go.Proofs.Ytghfgabajdghiac
open Go.RowKit
set_option linter.unusedVariables false

theorem tab_size : Lib.len8tab.size = 256 := by decide +kernel
theorem tab_at (i : Nat) (h : i < Lib.len8tab.size) : ((Lib.len8tab[i]'h).toNat : Int) = (Lib.bitLen i : Int) := by
  have e : Lib.len8 (i : Int) = (Lib.bitLen i : Int) := Lib.len8_eq ⟨i, by rw [← tab_size]; exact h⟩
  have g : Lib.len8tab[i]? = some (Lib.len8tab[i]'h) := getElem?_pos Lib.len8tab i h
  unfold Lib.len8 at e
  rw [Int.toNat_natCast, g, Option.getD_some] at e
  exact e

theorem len_fin (x y c : Int) (k K : Nat) (hc : c = (k : Int)) (hK : K = 2 ^ k) (hk : k ≤ 56) (h0 : 0 ≤ x) (h1 : x ≤ 18446744073709551615) (hy : y.toNat = x.toNat / K) (hy2 : y.toNat < 256) (hx : K ≤ x.toNat) :
    wrap64 (c + wrap64 (Lib.bitLen y.toNat : Int)) = (Lib.bitLen x.toNat : Int) := by
  have l := Lib.bitLen_le8 ⟨y.toNat, hy2⟩
  have s := Lib.bitLen_shift k x.toNat (by rw [← hK]; exact hx) (by omega)
  rw [← hK, ← hy] at s
  simp only at l
  unfold wrap64
  omega

theorem len_fin0 (x : Int) (h0 : 0 ≤ x) (h1 : x < 256) : wrap64 (wrap64 (Lib.bitLen x.toNat : Int)) = (Lib.bitLen x.toNat : Int) := by
  have l := Lib.bitLen_le8 ⟨x.toNat, by omega⟩
  simp only at l
  unfold wrap64
  omega

end Go.Proofs.Ytghfgabajdghiac
