/- Blocks that a function makes, in few words (for texts that are written by program). -/
import Derived.Test.YtgnfkkcagbbhmaaGreatDoorBxBq
namespace Go.Proofs.YtgnfkkcagbbhmaaGreatDoor
open Go.RowKit
set_option linter.unusedVariables false

theorem bo1 {w W : World} {l : List (Nat × List Value)} {b : Nat} {cs : List Value} (K : Hid (BS w ((b, cs) :: l) W)) : Bx W b cs := K.out.first
theorem bo2 {w W : World} {l : List (Nat × List Value)} {x1 : Nat × List Value} {b : Nat} {cs : List Value} (K : Hid (BS w (x1 :: (b, cs) :: l) W)) : Bx W b cs := K.out.tail.first
theorem Bx.c1 {W : World} {b : Nat} {v0 : Value} (h : Bx W b [v0]) : W.cell? ⟨b, 0, none⟩ = some v0 := h.c 0 rfl
theorem Bx.f1 {W : World} {b : Nat} {v0 : Value} (h : Bx W b [v0]) : W.frozen? ⟨b, 0, none⟩ = false := h.f 0 rfl
theorem Bx.c2 {W : World} {b : Nat} {v0 v1 : Value} (h : Bx W b [v0, v1]) : W.cell? ⟨b, 0, none⟩ = some v0 ∧ W.cell? ⟨b, 1, none⟩ = some v1 := ⟨h.c 0 rfl, h.c 1 rfl⟩
theorem Bx.f2 {W : World} {b : Nat} {v0 v1 : Value} (h : Bx W b [v0, v1]) : W.frozen? ⟨b, 0, none⟩ = false ∧ W.frozen? ⟨b, 1, none⟩ = false := ⟨h.f 0 rfl, h.f 1 rfl⟩
theorem Bx.c3 {W : World} {b : Nat} {v0 v1 v2 : Value} (h : Bx W b [v0, v1, v2]) : W.cell? ⟨b, 0, none⟩ = some v0 ∧ W.cell? ⟨b, 1, none⟩ = some v1 ∧ W.cell? ⟨b, 2, none⟩ = some v2 := ⟨h.c 0 rfl, h.c 1 rfl, h.c 2 rfl⟩
theorem Bx.f3 {W : World} {b : Nat} {v0 v1 v2 : Value} (h : Bx W b [v0, v1, v2]) : W.frozen? ⟨b, 0, none⟩ = false ∧ W.frozen? ⟨b, 1, none⟩ = false ∧ W.frozen? ⟨b, 2, none⟩ = false := ⟨h.f 0 rfl, h.f 1 rfl, h.f 2 rfl⟩
theorem Bx.c4 {W : World} {b : Nat} {v0 v1 v2 v3 : Value} (h : Bx W b [v0, v1, v2, v3]) : W.cell? ⟨b, 0, none⟩ = some v0 ∧ W.cell? ⟨b, 1, none⟩ = some v1 ∧ W.cell? ⟨b, 2, none⟩ = some v2 ∧ W.cell? ⟨b, 3, none⟩ = some v3 := ⟨h.c 0 rfl, h.c 1 rfl, h.c 2 rfl, h.c 3 rfl⟩
theorem Bx.f4 {W : World} {b : Nat} {v0 v1 v2 v3 : Value} (h : Bx W b [v0, v1, v2, v3]) : W.frozen? ⟨b, 0, none⟩ = false ∧ W.frozen? ⟨b, 1, none⟩ = false ∧ W.frozen? ⟨b, 2, none⟩ = false ∧ W.frozen? ⟨b, 3, none⟩ = false := ⟨h.f 0 rfl, h.f 1 rfl, h.f 2 rfl, h.f 3 rfl⟩
theorem Bx.c5 {W : World} {b : Nat} {v0 v1 v2 v3 v4 : Value} (h : Bx W b [v0, v1, v2, v3, v4]) : W.cell? ⟨b, 0, none⟩ = some v0 ∧ W.cell? ⟨b, 1, none⟩ = some v1 ∧ W.cell? ⟨b, 2, none⟩ = some v2 ∧ W.cell? ⟨b, 3, none⟩ = some v3 ∧ W.cell? ⟨b, 4, none⟩ = some v4 := ⟨h.c 0 rfl, h.c 1 rfl, h.c 2 rfl, h.c 3 rfl, h.c 4 rfl⟩
theorem Bx.f5 {W : World} {b : Nat} {v0 v1 v2 v3 v4 : Value} (h : Bx W b [v0, v1, v2, v3, v4]) : W.frozen? ⟨b, 0, none⟩ = false ∧ W.frozen? ⟨b, 1, none⟩ = false ∧ W.frozen? ⟨b, 2, none⟩ = false ∧ W.frozen? ⟨b, 3, none⟩ = false ∧ W.frozen? ⟨b, 4, none⟩ = false := ⟨h.f 0 rfl, h.f 1 rfl, h.f 2 rfl, h.f 3 rfl, h.f 4 rfl⟩

end Go.Proofs.YtgnfkkcagbbhmaaGreatDoor
