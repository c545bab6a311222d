/- Contracts of dec.level, dec.Add, dec.Sub, dec.Mul, dec.Cmp: sums, differences, products, order. -/
import Derived.Test.YtebjicnjbiiioaaDoorDecA
import Derived.BigRegion
namespace Go.Proofs.YtebjicnjbiiioaaDoor
open Go.RowKit
set_option linter.unusedVariables false

/-- no number, and an error. -/
abbrev d0 : Value := .agg #[.int .i64 0, .int .i64 0]

/-- the four blocks of dec.level. -/
abbrev lv4 (w : World) (xn xs yn ys : Int) : World := (((w.alloc (dbox xn xs)).alloc (dbox yn ys)).alloc (dbox 0 0)).alloc (dbox 0 0)
def Four (w : World) (B : Nat) (xn xs yn ys : Int) : Prop := Box w B xn xs ∧ Box w (B + 1) yn ys ∧ Box w (B + 1 + 1) 0 0 ∧ Box w (B + 1 + 1 + 1) 0 0
theorem Four.new (w : World) (xn xs yn ys : Int) : Four (lv4 w xn xs yn ys) w.heap.size xn xs yn ys :=
  ⟨by have := (((Box.new w xn xs).alloc (dbox yn ys)).alloc (dbox 0 0)).alloc (dbox 0 0); simpa using this,
   by have := ((Box.new (w.alloc (dbox xn xs)) yn ys).alloc (dbox 0 0)).alloc (dbox 0 0); simpa using this,
   by have := (Box.new ((w.alloc (dbox xn xs)).alloc (dbox yn ys)) 0 0).alloc (dbox 0 0); simpa using this,
   by have := Box.new (((w.alloc (dbox xn xs)).alloc (dbox yn ys)).alloc (dbox 0 0)) 0 0; simpa using this⟩
theorem Four.below {w w1 : World} {B : Nat} {xn xs yn ys : Int} (h : Four w B xn xs yn ys) (hb : Below w.heap.size w w1) : Four w1 B xn xs yn ys :=
  ⟨h.1.below hb h.1.1, h.2.1.below hb h.2.1.1, h.2.2.1.below hb h.2.2.1.1, h.2.2.2.below hb h.2.2.2.1⟩
theorem Four.alloc {w : World} {B : Nat} {xn xs yn ys : Int} (h : Four w B xn xs yn ys) (o : Obj) : Four (w.alloc o) B xn xs yn ys :=
  ⟨h.1.alloc o, h.2.1.alloc o, h.2.2.1.alloc o, h.2.2.2.alloc o⟩
theorem gen_world {P : Program} {c : Code} {Q : Exit → Act → World → Prop} {a : Act} {w1 : World} (S : World → Prop) (h : S w1) (k : ∀ w2, S w2 → Code.wp P c Q a w2) : Code.wp P c Q a w1 := k _ h
theorem keep2 {w1 : World} {N M : Nat} (h : M ≠ N) (x y : Value) (o : Nat) : ((w1.setCell ⟨M, 0, none⟩ x).setCell ⟨M, 1, none⟩ y).cell? ⟨N, o, none⟩ = w1.cell? ⟨N, o, none⟩ :=
  (World.cell?_setCell_other _ _ _ _ (fun e => h (by cases e; rfl))).trans (World.cell?_setCell_other _ _ _ _ (fun e => h (by cases e; rfl)))
theorem lv4_below (w : World) (xn xs yn ys : Int) : Below w.heap.size w (lv4 w xn xs yn ys) := (by repeat' (first | assumption | exact Below.refl _ _ | exact Nat.le_refl _ | refine Below.alloc ?_ ?_ _ | (simp; done) | (simp; omega) | omega))

end Go.Proofs.YtebjicnjbiiioaaDoor
