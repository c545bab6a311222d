/- Plain mathematics of digits as a number. -/
import Derived.Test.YtaoocecipacnhaaDoorWdWholeq
namespace Go.Proofs.YtaoocecipacnhaaDoor
set_option linter.unusedVariables false

/-! ### where a text stands among others -/
/-- the first place whose text is as asked; -1: none. -/
def findF (P : ByteArray → Bool) : Nat → List ByteArray → Int
  | _, [] => -1
  | i, t :: l => if P t = true then (i : Int) else findF P (i + 1) l
theorem findF_step {P : ByteArray → Bool} {l : List ByteArray} {i : Nat} {t : ByteArray} (h : l[i]? = some t) : findF P i (l.drop i) = if P t = true then (i : Int) else findF P (i + 1) (l.drop (i + 1)) := by
  obtain ⟨hl, he⟩ := List.getElem?_eq_some_iff.1 h
  rw [List.drop_eq_getElem_cons hl, he]
  rfl
theorem findF_end {P : ByteArray → Bool} {l : List ByteArray} {i : Nat} (h : ¬ i < l.length) : findF P i (l.drop i) = -1 := by
  rw [List.drop_of_length_le (by omega)]; rfl
def sameB (a b : ByteArray) : Bool := decide (lowB a = lowB b)
def knownB (s : ByteArray) (l : List ByteArray) : Int := findF (fun t => sameB s t) 0 l
end Go.Proofs.YtaoocecipacnhaaDoor
