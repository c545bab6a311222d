/- A row of two nodes, made by append; a line's loop: good so far, or failed. -/
import Derived.Test.YtaoocecipacnhaaDoorRxOq
import Derived.Test.YtaoocecipacnhaaDoorRxKq
namespace Go.Proofs.YtaoocecipacnhaaDoor
open Go.RowKit
set_option linter.unusedVariables false

theorem row_two {V : World} {base : Nat} {X : Nat → Prop} {v : Value} {n m : Nd} {c0 c1 c2 c3 d0 d1 d2 d3 : Value} (h : V.ownsRow base 30 4 v 2 [c0, c1, c2, c3, d0, d1, d2, d3]) (hn : NdAt X V n [c0, c1, c2, c3]) (hm : NdAt X V m [d0, d1, d2, d3]) :
    ∃ R cap, v = .slice (some ⟨R, 0, none⟩) 2 cap ∧ 2 ≤ cap ∧ cap ≤ maxLen ∧ base ≤ R ∧ R < V.heap.size ∧ RwAt X V R 0 [n, m] := by
  rcases h.2 with ⟨_, z⟩ | ⟨R, cap, cur, e, h1, h2, h3, h4, _⟩
  · cases z
  · subst e
    refine ⟨R, cap, rfl, h3, h4, h1, (Array.getElem?_eq_some_iff.1 h2).1, ?_⟩
    have c := fun j hj => h.cellAt j hj
    rw [RwAt]
    exact ⟨⟨c0, c1, c2, c3, c 0 (by omega), c 1 (by omega), c 2 (by omega), c 3 (by omega), hn⟩, by rw [RwAt]; exact ⟨⟨d0, d1, d2, d3, c 4 (by omega), c 5 (by omega), c 6 (by omega), c 7 (by omega), hm⟩, by rw [RwAt]; trivial⟩⟩
/-- a line under way: its node so far in block B, or it has failed; G: what the grammar does behind a node. -/
def LREL (g b cap : Nat) (T : List Tk) (w : World) (B d N : Nat) (G : Nat → Nd → List Tk → PR) (R : PR) (V : World) : Prop :=
  (∃ (L : List Tk) (f1 : Nat) (n : Nd) (k : Int) (u : ByteArray) (sq : Option Addr) (sn sc : Nat) (a : Int), Hid (CR g b cap T w B d L n (.int .i64 k) (.string u) (.slice sq sn sc) (.int .i64 a) V) ∧ L.length ≤ N ∧ Hid (10 * L.length + 1 ≤ f1) ∧ Hid (G f1 n (mL L) = R)) ∨
  (∃ (ea er : Int) (Z : Nat) (k : Int) (u : ByteArray) (sq : Option Addr) (sn sc : Nat) (a : Int), Hid (Kp g w V ∧ Bx V w.heap.size Z4 ∧ Bx V B [.int .i64 k, .string u, .slice sq sn sc, .int .i64 a] ∧ RF g b Z V ea er) ∧ Hid (R = .no ea er) ∧ er ≠ 0 ∧ w.heap.size < Z)

end Go.Proofs.YtaoocecipacnhaaDoor
