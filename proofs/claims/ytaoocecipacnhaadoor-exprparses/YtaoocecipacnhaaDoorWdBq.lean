/- Contracts of word.Short, word.Month and word.Day: names, whole or cut short. -/
import Derived.Test.YtaoocecipacnhaaDoorWdAq
import Derived.Test.YtaoocecipacnhaaDoorShelfq
namespace Go.Proofs.YtaoocecipacnhaaDoor
open Go.RowKit
set_option linter.unusedVariables false

/-- texts in a block. -/
def Txt (w : World) (g : Nat) (L : List ByteArray) : Prop := g < w.heap.size ∧ ∀ j t, L[j]? = some t → w.cell? ⟨g, j, none⟩ = some (.string t)
theorem Txt.below {w w1 : World} {g : Nat} {L : List ByteArray} (h : Txt w g L) (hb : Below w.heap.size w w1) : Txt w1 g L :=
  ⟨Nat.lt_of_lt_of_le h.1 hb.size, fun j t hj => (hb.cell (p := ⟨g, j, none⟩) h.1).trans (h.2 j t hj)⟩
theorem Txt.new (w : World) (L : List ByteArray) (t : TypeId) : Txt (w.alloc (.cells (L.map Value.string).toArray t)) w.heap.size L := by
  refine ⟨by simp, fun j x hx => ?_⟩
  rw [World.cell?_alloc_at _ _ _ _ rfl]
  simp [hx]

end Go.Proofs.YtaoocecipacnhaaDoor
