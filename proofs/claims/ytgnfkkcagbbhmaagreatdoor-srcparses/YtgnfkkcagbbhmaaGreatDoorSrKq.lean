/- Blocks of cells, read and written whole. -/
import Derived.Test.YtgnfkkcagbbhmaaGreatDoorSrGq
import Derived.Deep.RegionHeld3
import Derived.Deep.MidRow
namespace Go.Proofs.YtgnfkkcagbbhmaaGreatDoor
open Go.RowKit
set_option linter.unusedVariables false
namespace Sr

def Bx (W : World) (b : Nat) (l : List Value) : Prop := b < W.heap.size ∧ ∀ i v, l[i]? = some v → W.cell? ⟨b, i, none⟩ = some v ∧ W.frozen? ⟨b, i, none⟩ = false
theorem Bx.below {W W' : World} {b : Nat} {l : List Value} (h : Bx W b l) (hb : Below W.heap.size W W') : Bx W' b l :=
  ⟨Nat.lt_of_lt_of_le h.1 hb.size, fun i v e => ⟨(hb.cell (p := ⟨b, i, none⟩) h.1).trans (h.2 i v e).1, (hb.frozen (p := ⟨b, i, none⟩) h.1).trans (h.2 i v e).2⟩⟩
theorem Bx.alloc {W : World} {b : Nat} {l : List Value} (h : Bx W b l) (o : Obj) : Bx (W.alloc o) b l := h.below ((Below.refl _ W).alloc (Nat.le_refl _) o)
theorem Bx.new (w : World) (l : List Value) (t : TypeId) : Bx (w.alloc (.cells l.toArray t)) w.heap.size l :=
  ⟨by simp, fun i v e => ⟨by rw [World.cell?_alloc_at _ _ _ _ rfl]; simpa using e, by rw [World.frozen?_alloc_at _ _ _ _ rfl]⟩⟩
theorem Bx.newAt (w : World) (l : List Value) (t : TypeId) (b : Nat) (hb : w.heap.size = b) : Bx (w.alloc (.cells l.toArray t)) b l := hb ▸ Bx.new w l t
theorem Bx.c {W : World} {b : Nat} {l : List Value} (h : Bx W b l) (i : Nat) {v : Value} (e : l[i]? = some v) : W.cell? ⟨b, i, none⟩ = some v := (h.2 i v e).1
theorem Bx.f {W : World} {b : Nat} {l : List Value} (h : Bx W b l) (i : Nat) {v : Value} (e : l[i]? = some v) : W.frozen? ⟨b, i, none⟩ = false := (h.2 i v e).2
theorem below_setCells {w : World} {b : Nat} (hb : w.heap.size ≤ b) : ∀ (vs : List Value) (W : World) (i : Nat), Below w.heap.size w W → Below w.heap.size w (W.setCells b i vs)
  | [], _, _, h => h
  | v :: vs, W, i, h => below_setCells hb vs _ _ (h.setCell (p := ⟨b, i, none⟩) hb v)
theorem setCells_size (b : Nat) : ∀ (vs : List Value) (W : World) (i : Nat), (W.setCells b i vs).heap.size = W.heap.size
  | [], _, _ => rfl
  | v :: vs, W, i => by rw [World.setCells, setCells_size b vs]; simp
theorem setCells_off (b : Nat) (vs : List Value) (W : World) (i : Nat) (p : Addr) (h : p.block ≠ b) : (W.setCells b i vs).cell? p = W.cell? p :=
  World.cell?_setCells_out b vs i W p (fun e _ => absurd e h)
theorem Bx.there {W : World} {b : Nat} {l : List Value} (h : Bx W b l) : W.there b 0 l.length := fun j hj => by
  have := h.2 j l[j] (List.getElem?_eq_getElem hj)
  rw [Nat.zero_add]
  exact ⟨by rw [this.1]; rfl, this.2⟩
theorem Bx.all {W : World} {b : Nat} {l : List Value} (h : Bx W b l) : W.rangeAt b 0 l := fun j v hv => by rw [Nat.zero_add]; exact (h.2 j v hv).1
theorem Bx.setAll {W : World} {b : Nat} {l : List Value} (h : Bx W b l) (vs : List Value) (hl : l.length = vs.length) : Bx (W.setCells b 0 vs) b vs :=
  ⟨by rw [setCells_size]; exact h.1, fun i v e => by
    have hi := (List.getElem?_eq_some_iff.1 e).1
    refine ⟨?_, ?_⟩
    · have := World.rangeAt_setCells_same W b 0 vs (hl ▸ h.there) i v e
      rwa [Nat.zero_add] at this
    · rw [World.frozen?_setCells]; exact (h.2 i l[i] (List.getElem?_eq_getElem (by omega))).2⟩
theorem Bx.setOther {W : World} {b' b : Nat} {l : List Value} (h : Bx W b' l) (hb : b' ≠ b) (vs : List Value) (j : Nat := 0) : Bx (W.setCells b j vs) b' l :=
  ⟨by rw [setCells_size]; exact h.1, fun i v e => ⟨by rw [setCells_off b vs _ _ _ hb]; exact (h.2 i v e).1, by rw [World.frozen?_setCells]; exact (h.2 i v e).2⟩⟩
theorem gen_any {P : Program} {md : Region.Mode} {ops : Array Oper} {Q : Exit → Act → World → Prop} {S : World → Prop} {fuel : Nat} {listed : Array Bool} {a : Act} {w1 : World} (T : World → Prop) (h : T w1)
    (k : ∀ w2, T w2 → wpAnyH P md ops Q S fuel listed a w2) : wpAnyH P md ops Q S fuel listed a w1 := k _ h

theorem gen_list {P : Program} {ops : Array Oper} {Q : Exit → Act → World → Prop} {rest : List Oper} {a : Act} {w1 : World} (T : World → Prop) (h : T w1) (k : ∀ w2, T w2 → wpList P ops Q rest a w2) : wpList P ops Q rest a w1 := k _ h
theorem gen_code {P : Program} {c : Code} {Q : Exit → Act → World → Prop} {a : Act} {w1 : World} (T : World → Prop) (h : T w1) (k : ∀ w2, T w2 → Code.wp P c Q a w2) : Code.wp P c Q a w1 := k _ h
end Sr
end Go.Proofs.YtgnfkkcagbbhmaaGreatDoor
