/- law22's inside: all places of a node are below a number. -/
import Derived.Test.YtaoocecipacnhaaDoorExAq
namespace Go.Proofs.YtaoocecipacnhaaDoor
open Go.RowKit
set_option linter.unusedVariables false

theorem RwAt.get {X : Nat → Prop} {w : World} {b : Nat} : ∀ (l : List Nd) (i j : Nat) (n : Nd), RwAt X w b i l → l[j]? = some n → ∃ c0 c1 c2 c3, w.cell? ⟨b, (i + j) * 4, none⟩ = some c0 ∧ w.cell? ⟨b, (i + j) * 4 + 1, none⟩ = some c1 ∧ w.cell? ⟨b, (i + j) * 4 + 2, none⟩ = some c2 ∧ w.cell? ⟨b, (i + j) * 4 + 3, none⟩ = some c3 ∧ NdAt X w n [c0, c1, c2, c3]
  | [], i, j, n, h, e => by simp at e
  | m :: l, i, 0, n, h, e => by
    rw [RwAt] at h
    simp at e; subst e
    exact h.1
  | m :: l, i, j + 1, n, h, e => by
    rw [RwAt] at h
    have q := RwAt.get l (i + 1) j n h.2 (by simpa using e)
    rw [show i + 1 + j = i + (j + 1) by omega] at q
    exact q
theorem NdAt.below {X : Nat → Prop} {w W : World} {n : Nd} {cs : List Value} (h : NdAt X w n cs) (k : Below w.heap.size w W) : NdAt X W n cs :=
  NdAt.keep k.size (fun b hb hz => ⟨hb, k.block b hz⟩) n cs h

end Go.Proofs.YtaoocecipacnhaaDoor
