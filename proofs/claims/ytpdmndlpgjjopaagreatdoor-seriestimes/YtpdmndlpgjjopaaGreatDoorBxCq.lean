/- Blocks that a function makes, in few words (for texts that are written by program). -/
import Derived.Test.YtpdmndlpgjjopaaGreatDoorBxZq
namespace Go.Proofs.YtpdmndlpgjjopaaGreatDoor
open Go.RowKit
set_option linter.unusedVariables false

theorem bsb {w W V : World} {l : List (Nat × List Value)} (K : Hid (BS w l W)) (hb : Below W.heap.size W V) : Hid (BS w l V) := K.out.below hb
theorem bsn {w W : World} {l : List (Nat × List Value)} (K : Hid (BS w l W)) (cs : List Value) (t : TypeId) : Hid (BS w ((W.heap.size, cs) :: l) (W.alloc (.cells cs.toArray t))) := K.out.new cs t rfl
theorem bs_to {P : Program} {c : Code} {Q : Exit → Act → World → Prop} {a : Act} {w w1 : World} {l : List (Nat × List Value)} (h : Hid (BS w l w1)) (k : ∀ w2, Hid (BS w l w2) → Code.wp P c Q a w2) : Code.wp P c Q a w1 := k _ h
theorem bo1 {w W : World} {l : List (Nat × List Value)} {b : Nat} {cs : List Value} (K : Hid (BS w ((b, cs) :: l) W)) : Bx W b cs := K.out.first
theorem bo2 {w W : World} {l : List (Nat × List Value)} {x1 : Nat × List Value} {b : Nat} {cs : List Value} (K : Hid (BS w (x1 :: (b, cs) :: l) W)) : Bx W b cs := K.out.tail.first
theorem bo3 {w W : World} {l : List (Nat × List Value)} {x1 x2 : Nat × List Value} {b : Nat} {cs : List Value} (K : Hid (BS w (x1 :: x2 :: (b, cs) :: l) W)) : Bx W b cs := K.out.tail.tail.first
theorem bo4 {w W : World} {l : List (Nat × List Value)} {x1 x2 x3 : Nat × List Value} {b : Nat} {cs : List Value} (K : Hid (BS w (x1 :: x2 :: x3 :: (b, cs) :: l) W)) : Bx W b cs := K.out.tail.tail.tail.first
theorem Bx.c1 {W : World} {b : Nat} {v0 : Value} (h : Bx W b [v0]) : W.cell? ⟨b, 0, none⟩ = some v0 := h.c 0 rfl
theorem Bx.f1 {W : World} {b : Nat} {v0 : Value} (h : Bx W b [v0]) : W.frozen? ⟨b, 0, none⟩ = false := h.f 0 rfl
theorem Bx.c2 {W : World} {b : Nat} {v0 v1 : Value} (h : Bx W b [v0, v1]) : W.cell? ⟨b, 0, none⟩ = some v0 ∧ W.cell? ⟨b, 1, none⟩ = some v1 := ⟨h.c 0 rfl, h.c 1 rfl⟩
theorem Bx.f2 {W : World} {b : Nat} {v0 v1 : Value} (h : Bx W b [v0, v1]) : W.frozen? ⟨b, 0, none⟩ = false ∧ W.frozen? ⟨b, 1, none⟩ = false := ⟨h.f 0 rfl, h.f 1 rfl⟩
theorem Bx.c3 {W : World} {b : Nat} {v0 v1 v2 : Value} (h : Bx W b [v0, v1, v2]) : W.cell? ⟨b, 0, none⟩ = some v0 ∧ W.cell? ⟨b, 1, none⟩ = some v1 ∧ W.cell? ⟨b, 2, none⟩ = some v2 := ⟨h.c 0 rfl, h.c 1 rfl, h.c 2 rfl⟩
theorem Bx.c4 {W : World} {b : Nat} {v0 v1 v2 v3 : Value} (h : Bx W b [v0, v1, v2, v3]) : W.cell? ⟨b, 0, none⟩ = some v0 ∧ W.cell? ⟨b, 1, none⟩ = some v1 ∧ W.cell? ⟨b, 2, none⟩ = some v2 ∧ W.cell? ⟨b, 3, none⟩ = some v3 := ⟨h.c 0 rfl, h.c 1 rfl, h.c 2 rfl, h.c 3 rfl⟩
theorem Bx.f4 {W : World} {b : Nat} {v0 v1 v2 v3 : Value} (h : Bx W b [v0, v1, v2, v3]) : W.frozen? ⟨b, 0, none⟩ = false ∧ W.frozen? ⟨b, 1, none⟩ = false ∧ W.frozen? ⟨b, 2, none⟩ = false ∧ W.frozen? ⟨b, 3, none⟩ = false := ⟨h.f 0 rfl, h.f 1 rfl, h.f 2 rfl, h.f 3 rfl⟩
theorem Bx.c5 {W : World} {b : Nat} {v0 v1 v2 v3 v4 : Value} (h : Bx W b [v0, v1, v2, v3, v4]) : W.cell? ⟨b, 0, none⟩ = some v0 ∧ W.cell? ⟨b, 1, none⟩ = some v1 ∧ W.cell? ⟨b, 2, none⟩ = some v2 ∧ W.cell? ⟨b, 3, none⟩ = some v3 ∧ W.cell? ⟨b, 4, none⟩ = some v4 := ⟨h.c 0 rfl, h.c 1 rfl, h.c 2 rfl, h.c 3 rfl, h.c 4 rfl⟩
theorem Bx.f5 {W : World} {b : Nat} {v0 v1 v2 v3 v4 : Value} (h : Bx W b [v0, v1, v2, v3, v4]) : W.frozen? ⟨b, 0, none⟩ = false ∧ W.frozen? ⟨b, 1, none⟩ = false ∧ W.frozen? ⟨b, 2, none⟩ = false ∧ W.frozen? ⟨b, 3, none⟩ = false ∧ W.frozen? ⟨b, 4, none⟩ = false := ⟨h.f 0 rfl, h.f 1 rfl, h.f 2 rfl, h.f 3 rfl, h.f 4 rfl⟩

end Go.Proofs.YtpdmndlpgjjopaaGreatDoor
