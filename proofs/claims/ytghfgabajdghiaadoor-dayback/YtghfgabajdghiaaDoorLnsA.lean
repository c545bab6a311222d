/- The table of the months' lengths stays. -/
import Derived.Test.YtghfgabajdghiaaDoorCivG
namespace Go.Proofs.YtghfgabajdghiaaDoor
open Go.RowKit
set_option linter.unusedVariables false

theorem Lens_below {w w' : World} {b : Nat} (h : Cvl.Lens w) (hb : Below b w w') (h0 : 0 < b) : Cvl.Lens w' := fun i hi => (hb.cell (p := ⟨0, i, none⟩) h0).trans (h i hi)
theorem Lens_lt {w : World} (h : Cvl.Lens w) : 0 < w.heap.size := by
  have := h 0 (by decide)
  by_cases hlt : 0 < w.heap.size
  · exact hlt
  · have e : w.heap[0]? = none := Array.getElem?_eq_none (by omega)
    simp [World.cell?, e] at this

end Go.Proofs.YtghfgabajdghiaaDoor
