/- series: the reference's Ints. -/
import Derived.Test.YtpdmndlpgjjopaaGreatDoorSeEq
namespace Go.Proofs.YtpdmndlpgjjopaaGreatDoor
open Go.RowKit
set_option linter.unusedVariables false

theorem own_form {W : World} {base : Nat} {e : TypeId} {size : Nat} {v : Value} {n : Nat} {xs : List Value} (h : W.ownsRow base e size v n xs) : ∃ ao c, v = .slice ao n c ∧ n ≤ c ∧ c ≤ maxLen := by
  rcases h.2 with ⟨e, z⟩ | ⟨g, cap, cur, e, h3, h4, h5, h6, _⟩
  · exact ⟨none, 0, by rw [e]; simp [z], by simp [z], by unfold maxLen; omega⟩
  · exact ⟨_, _, e, h5, h6⟩
theorem bxc {w : World} {b : Nat} {cs : List Value} (h : Bx w b cs) : ∀ j u, cs[j]? = some u → w.cell? ((⟨b, 0, none⟩ : Addr).add j) = some u := fun j t ht => by
  have := h.c j ht
  unfold Addr.add
  split
  · rename_i h; subst h; exact this
  · simpa using this
theorem own_keepS {w w1 : World} {base : Nat} {e : TypeId} {size : Nat} {v : Value} {n : Nat} {xs : List Value} (h : w.ownsRow base e size v n xs) (hb : Below w.heap.size w w1) : w1.ownsRow base e size v n xs := by
  refine ⟨h.1, ?_⟩
  rcases h.2 with h2 | ⟨g, cap, cur, e1, h3, h4, h5⟩
  · exact .inl h2
  · exact .inr ⟨g, cap, cur, e1, h3, (hb.block g (Array.getElem?_eq_some_iff.1 h4).1).trans h4, h5⟩
def lenOf : Value → Nat
  | .slice _ n _ => n
  | _ => 0


end Go.Proofs.YtpdmndlpgjjopaaGreatDoor
