import Derived.Test.YtklehbmghjcmaaaGreatDoorSz
import Derived.Test.YtklehbmghjcmaaaGreatDoorRows
import Derived.WalkKit
import Derived.WalkSpells
import Derived.WalkLawsBesides
import Derived.Deep.MidRow
import Derived.Deep.RegionHeld3
import Derived.Test.YtklehbmghjcmaaaGreatDoorS1
open Go.Value renaming int → vi
open Go.IntKind renaming i64 → ki
open List renaming setIfInBounds_toArray → zb, set_cons_zero → zc, set_cons_succ → zd
open Go.Act renaming put → za
open Go.Ending renaming returned → zr
set_option maxRecDepth 100000
set_option maxHeartbeats 16000000
set_option linter.unusedVariables false
namespace Go.Proofs.YtklehbmghjcmaaaGreatDoor
open Go.RowKit
def Bx (W : World) (b : Nat) (l : List Value) : Prop := b < W.heap.size ∧ ∀ i v, l[i]? = some v → W.cell? ⟨b, i, none⟩ = some v ∧ W.frozen? ⟨b, i, none⟩ = false
theorem Bx.below {W W' : World} {b : Nat} {l : List Value} (h : Bx W b l) (hb : Below W.heap.size W W') : Bx W' b l :=
 ⟨Nat.lt_of_lt_of_le h.1 hb.size, fun i v e => ⟨(hb.cell (p := ⟨b, i, none⟩) h.1).trans (h.2 i v e).1, (hb.frozen (p := ⟨b, i, none⟩) h.1).trans (h.2 i v e).2⟩⟩
theorem Bx.alloc {W : World} {b : Nat} {l : List Value} (h : Bx W b l) (o : Obj) : Bx (W.alloc o) b l := h.below ((Below.refl _ W).alloc (Nat.le_refl _) o)
theorem Bx.new (w : World) (l : List Value) (t : TypeId) : Bx (w.alloc (.cells l.toArray t)) w.heap.size l :=
 ⟨by simp, fun i v e => ⟨by rw [World.cell?_alloc_at _ _ _ _ rfl]; simpa using e, by rw [World.frozen?_alloc_at _ _ _ _ rfl]⟩⟩
theorem Bx.c {W : World} {b : Nat} {l : List Value} (h : Bx W b l) (i : Nat) {v : Value} (e : l[i]? = some v) : W.cell? ⟨b, i, none⟩ = some v := (h.2 i v e).1
theorem Bx.f {W : World} {b : Nat} {l : List Value} (h : Bx W b l) (i : Nat) {v : Value} (e : l[i]? = some v) : W.frozen? ⟨b, i, none⟩ = false := (h.2 i v e).2
theorem below_setCells {w : World} {b : Nat} (hb : w.heap.size ≤ b) : ∀ (vs : List Value) (W : World) (i : Nat), Below w.heap.size w W → Below w.heap.size w (W.setCells b i vs)
 | [], _, _, h => h
 | v :: vs, W, i, h => below_setCells hb vs _ _ (h.setCell (p := ⟨b, i, none⟩) hb v)
theorem setCells_size (b : Nat) : ∀ (vs : List Value) (W : World) (i : Nat), (W.setCells b i vs).heap.size = W.heap.size
 | [], _, _ => rfl
 | v :: vs, W, i => by rw [World.setCells, setCells_size b vs]; simp
theorem setCells_off (b : Nat) (vs : List Value) (W : World) (i : Nat) (p : Addr) (h : p.block ≠ b) : (W.setCells b i vs).cell? p = W.cell? p :=
 World.cell?_setCells_out b vs i W p (fun e _ => absurd e h)
theorem Bx.there {W : World} {b : Nat} {l : List Value} (h : Bx W b l) : W.there b 0 l.length := fun j hj => by
 have := h.2 j l[j] (List.getElem?_eq_getElem hj)
 rw [Nat.zero_add]
 exact ⟨by rw [this.1]; rfl, this.2⟩
theorem Bx.all {W : World} {b : Nat} {l : List Value} (h : Bx W b l) : W.rangeAt b 0 l := fun j v hv => by rw [Nat.zero_add]; exact (h.2 j v hv).1
theorem Bx.setAll {W : World} {b : Nat} {l : List Value} (h : Bx W b l) (vs : List Value) (hl : l.length = vs.length) : Bx (W.setCells b 0 vs) b vs :=
 ⟨by rw [setCells_size]; exact h.1, fun i v e => by
  have hi := (List.getElem?_eq_some_iff.1 e).1
  refine ⟨?_, ?_⟩
  ·have := World.rangeAt_setCells_same W b 0 vs (hl ▸ h.there) i v e
   rwa [Nat.zero_add] at this
  ·rw [World.frozen?_setCells]; exact (h.2 i l[i] (List.getElem?_eq_getElem (by omega))).2⟩
theorem Bx.setOther {W : World} {b' b : Nat} {l : List Value} (h : Bx W b' l) (hb : b' ≠ b) (vs : List Value) (j : Nat := 0) : Bx (W.setCells b j vs) b' l :=
 ⟨by rw [setCells_size]; exact h.1, fun i v e => ⟨by rw [setCells_off b vs _ _ _ hb]; exact (h.2 i v e).1, by rw [World.frozen?_setCells]; exact (h.2 i v e).2⟩⟩
def BS (w : World) (l : List (Nat × List Value)) (W : World) : Prop := Below w.heap.size w W ∧ ∀ x ∈ l, w.heap.size ≤ x.1 ∧ Bx W x.1 x.2
theorem BS.start (w : World) : BS w [] w := ⟨Below.refl _ _, fun x h => by cases h⟩
theorem BS.below {w W V : World} {l : List (Nat × List Value)} (h : BS w l W) (hb : Below W.heap.size W V) : BS w l V :=
 ⟨h.1.trans (hb.mono h.1.size), fun x hx => ⟨(h.2 x hx).1, (h.2 x hx).2.below hb⟩⟩
theorem BS.drew {w W : World} {l : List (Nat × List Value)} (h : BS w l W) : BS w l W.drew := ⟨h.1.drew, h.2⟩
theorem BS.alloc {w W : World} {l : List (Nat × List Value)} (h : BS w l W) (o : Obj) : BS w l (W.alloc o) := h.below ((Below.refl _ W).alloc (Nat.le_refl _) o)
theorem BS.new {w W : World} {l : List (Nat × List Value)} (h : BS w l W) (cs : List Value) (t : TypeId) {b : Nat} (hb : W.heap.size = b) : BS w ((b, cs) :: l) (W.alloc (.cells cs.toArray t)) :=
 ⟨(h.alloc _).1, fun x hx => by
  rcases List.mem_cons.1 hx with rfl | hx
  ·exact ⟨by rw [← hb]; exact h.1.size, by rw [← hb]; exact Bx.new W cs t⟩
  ·exact (h.alloc _).2 x hx⟩
theorem BS.first {w W : World} {l : List (Nat × List Value)} {b : Nat} {cs : List Value} (h : BS w ((b, cs) :: l) W) : Bx W b cs := (h.2 (b, cs) List.mem_cons_self).2
theorem BS.at {w W : World} {l : List (Nat × List Value)} (h : BS w l W) (b : Nat) (cs : List Value) (hm : (b, cs) ∈ l) : Bx W b cs := (h.2 (b, cs) hm).2
theorem BS.set {w W : World} {l : List (Nat × List Value)} {b : Nat} {cs : List Value} (h : BS w ((b, cs) :: l) W) (vs : List Value) (hl : cs.length = vs.length) (hn : ∀ x ∈ l, x.1 ≠ b) : BS w ((b, vs) :: l) (W.setCells b 0 vs) :=
 ⟨below_setCells (h.2 (b, cs) List.mem_cons_self).1 vs W 0 h.1, fun x hx => by
  rcases List.mem_cons.1 hx with rfl | hx
  ·exact ⟨(h.2 (b, cs) List.mem_cons_self).1, h.first.setAll vs hl⟩
  ·exact ⟨(h.2 x (List.mem_cons_of_mem _ hx)).1, (h.2 x (List.mem_cons_of_mem _ hx)).2.setOther (hn x hx) vs⟩⟩
theorem BS.push {w W : World} {l : List (Nat × List Value)} (h : BS w l W) (zs vs : List Value) (t : TypeId) (hl : zs.length = vs.length) : BS w ((W.heap.size, vs) :: l) ((W.alloc (.cells zs.toArray t)).setCells W.heap.size 0 vs) :=
 (h.new zs t rfl).set vs hl fun x hx => Nat.ne_of_lt (h.2 x hx).2.1
theorem gen_at {P : Program} {ops : Array Oper} {Q : Exit → Act → World → Prop} {rest : List Oper} {a : Act} {w1 : World} (T : World → Prop) (h : T w1) (k : ∀ w2, T w2 → wpList P ops Q rest a w2) : wpList P ops Q rest a w1 := k _ h
theorem gen_to {P : Program} {c : Code} {Q : Exit → Act → World → Prop} {a : Act} {w1 : World} (T : World → Prop) (h : T w1) (k : ∀ w2, T w2 → Code.wp P c Q a w2) : Code.wp P c Q a w1 := k _ h
end Go.Proofs.YtklehbmghjcmaaaGreatDoor
namespace Go.Proofs.YtklehbmghjcmaaaGreatDoor
open Go.RowKit
theorem BS.tail {w W : World} {l : List (Nat × List Value)} {x : Nat × List Value} (h : BS w (x :: l) W) : BS w l W := ⟨h.1, fun y hy => h.2 y (List.mem_cons_of_mem _ hy)⟩
def BW (w W : World) : Prop := Below w.heap.size w W
theorem BW.below {w W V : World} (h : BW w W) (hb : Below W.heap.size W V) : BW w V := Below.trans h (hb.mono h.size)
theorem BW.drew {w W : World} (h : BW w W) : BW w W.drew := Below.drew h
theorem BS.perm {w W : World} {l l' : List (Nat × List Value)} (h : BS w l W) (hs : ∀ x ∈ l', x ∈ l) : BS w l' W := ⟨h.1, fun x hx => h.2 x (hs x hx)⟩
def NB (w : World) (l : List (Nat × List Value)) (W : World) (b : Nat) (cs : List Value) : Prop := Bx W b cs ∧ w.heap.size ≤ b ∧ ∀ x ∈ l, x.1 ≠ b
theorem BS.nb {w V : World} {l : List (Nat × List Value)} {cs : List Value} {t : TypeId} (h0 : BS w l V) (h : BS w l (V.alloc (.cells cs.toArray t))) : NB w l (V.alloc (.cells cs.toArray t)) V.heap.size cs :=
 ⟨Bx.new V cs t, h0.1.size, fun x hx => Nat.ne_of_lt (h0.2 x hx).2.1⟩
theorem NB.below {w V V' : World} {l : List (Nat × List Value)} {b : Nat} {cs : List Value} (h : NB w l V b cs) (hb : Below V.heap.size V V') : NB w l V' b cs := ⟨h.1.below hb, h.2⟩
theorem BS.off {w W : World} {l : List (Nat × List Value)} (h : BS w l W) {b : Nat} (hb : w.heap.size ≤ b) (hn : ∀ x ∈ l, x.1 ≠ b) (vs : List Value) : BS w l (W.setCells b 0 vs) :=
 ⟨below_setCells hb vs W 0 h.1, fun x hx => ⟨(h.2 x hx).1, (h.2 x hx).2.setOther (hn x hx) vs⟩⟩
theorem exec_row9 {P : Program} {ρ : Operand → Value} {o : Oper} {w : World} {b off : Nat} {ty : TypeId} {x : Operand} {cs : List Value} {d : TypeDesc} (ho : o.op = .load ty x) (hx : ρ x = .pointer (some ⟨b, off, none⟩)) (hc : w.rangeAt b off cs)
  (hu : P.underlying ty = some d) (hd : d.isRow = true) (hi : (P.info? ty).map (·.size) = some cs.length) : (execOp ρ o).run P w = .ok (.value (.agg cs.toArray)) w := by
 simp only [execOp, ho, hx, Sem.run_bind, run_loadAt_mid w b off ty cs d hc hu hd hi, Sem.run_pure, Result.andThen_ok]
end Go.Proofs.YtklehbmghjcmaaaGreatDoor
namespace Go.Proofs.YtklehbmghjcmaaaGreatDoor
open Go.RowKit
theorem Lens_below {w w' : World} {b : Nat} (h : Cvl.Lens w) (hb : Below b w w') (h0 : 1 < b) : Cvl.Lens w' := fun i hi => (hb.cell (p := ⟨1, i, none⟩) h0).trans (h i hi)
theorem Lens_lt {w : World} (h : Cvl.Lens w) : 1 < w.heap.size := by
 have := h 0 (by decide)
 by_cases hlt : 1 < w.heap.size
 ·exact hlt
 ·have e : w.heap[1]? = none := Array.getElem?_eq_none (by omega)
  simp [World.cell?, e] at this
end Go.Proofs.YtklehbmghjcmaaaGreatDoor
namespace Go.Proofs.YtklehbmghjcmaaaGreatDoor
open Go.RowKit
theorem bsb {w W V : World} {l : List (Nat × List Value)} (K : Hid (BS w l W)) (hb : Below W.heap.size W V) : Hid (BS w l V) := K.out.below hb
theorem bsn {w W : World} {l : List (Nat × List Value)} (K : Hid (BS w l W)) (cs : List Value) (t : TypeId) : Hid (BS w ((W.heap.size, cs) :: l) (W.alloc (.cells cs.toArray t))) := K.out.new cs t rfl
theorem bs_to {P : Program} {c : Code} {Q : Exit → Act → World → Prop} {a : Act} {w w1 : World} {l : List (Nat × List Value)} (h : Hid (BS w l w1)) (k : ∀ w2, Hid (BS w l w2) → Code.wp P c Q a w2) : Code.wp P c Q a w1 := k _ h
theorem bo1 {w W : World} {l : List (Nat × List Value)} {b : Nat} {cs : List Value} (K : Hid (BS w ((b, cs) :: l) W)) : Bx W b cs := K.out.first
theorem bo2 {w W : World} {l : List (Nat × List Value)} {x1 : Nat × List Value} {b : Nat} {cs : List Value} (K : Hid (BS w (x1 :: (b, cs) :: l) W)) : Bx W b cs := K.out.tail.first
theorem bo3 {w W : World} {l : List (Nat × List Value)} {x1 x2 : Nat × List Value} {b : Nat} {cs : List Value} (K : Hid (BS w (x1 :: x2 :: (b, cs) :: l) W)) : Bx W b cs := K.out.tail.tail.first
theorem bo4 {w W : World} {l : List (Nat × List Value)} {x1 x2 x3 : Nat × List Value} {b : Nat} {cs : List Value} (K : Hid (BS w (x1 :: x2 :: x3 :: (b, cs) :: l) W)) : Bx W b cs := K.out.tail.tail.tail.first
theorem bo5 {w W : World} {l : List (Nat × List Value)} {x1 x2 x3 x4 : Nat × List Value} {b : Nat} {cs : List Value} (K : Hid (BS w (x1 :: x2 :: x3 :: x4 :: (b, cs) :: l) W)) : Bx W b cs := K.out.tail.tail.tail.tail.first
theorem bo6 {w W : World} {l : List (Nat × List Value)} {x1 x2 x3 x4 x5 : Nat × List Value} {b : Nat} {cs : List Value} (K : Hid (BS w (x1 :: x2 :: x3 :: x4 :: x5 :: (b, cs) :: l) W)) : Bx W b cs := K.out.tail.tail.tail.tail.tail.first
theorem bo7 {w W : World} {l : List (Nat × List Value)} {x1 x2 x3 x4 x5 x6 : Nat × List Value} {b : Nat} {cs : List Value} (K : Hid (BS w (x1 :: x2 :: x3 :: x4 :: x5 :: x6 :: (b, cs) :: l) W)) : Bx W b cs := K.out.tail.tail.tail.tail.tail.tail.first
theorem Bx.c1 {W : World} {b : Nat} {v0 : Value} (h : Bx W b [v0]) : W.cell? ⟨b, 0, none⟩ = some v0 := h.c 0 rfl
theorem Bx.f1 {W : World} {b : Nat} {v0 : Value} (h : Bx W b [v0]) : W.frozen? ⟨b, 0, none⟩ = false := h.f 0 rfl
theorem Bx.c2 {W : World} {b : Nat} {v0 v1 : Value} (h : Bx W b [v0, v1]) : W.cell? ⟨b, 0, none⟩ = some v0 ∧ W.cell? ⟨b, 1, none⟩ = some v1 := ⟨h.c 0 rfl, h.c 1 rfl⟩
theorem Bx.f2 {W : World} {b : Nat} {v0 v1 : Value} (h : Bx W b [v0, v1]) : W.frozen? ⟨b, 0, none⟩ = false ∧ W.frozen? ⟨b, 1, none⟩ = false := ⟨h.f 0 rfl, h.f 1 rfl⟩
theorem Bx.c3 {W : World} {b : Nat} {v0 v1 v2 : Value} (h : Bx W b [v0, v1, v2]) : W.cell? ⟨b, 0, none⟩ = some v0 ∧ W.cell? ⟨b, 1, none⟩ = some v1 ∧ W.cell? ⟨b, 2, none⟩ = some v2 := ⟨h.c 0 rfl, h.c 1 rfl, h.c 2 rfl⟩
theorem Bx.f3 {W : World} {b : Nat} {v0 v1 v2 : Value} (h : Bx W b [v0, v1, v2]) : W.frozen? ⟨b, 0, none⟩ = false ∧ W.frozen? ⟨b, 1, none⟩ = false ∧ W.frozen? ⟨b, 2, none⟩ = false := ⟨h.f 0 rfl, h.f 1 rfl, h.f 2 rfl⟩
theorem Bx.c4 {W : World} {b : Nat} {v0 v1 v2 v3 : Value} (h : Bx W b [v0, v1, v2, v3]) : W.cell? ⟨b, 0, none⟩ = some v0 ∧ W.cell? ⟨b, 1, none⟩ = some v1 ∧ W.cell? ⟨b, 2, none⟩ = some v2 ∧ W.cell? ⟨b, 3, none⟩ = some v3 := ⟨h.c 0 rfl, h.c 1 rfl, h.c 2 rfl, h.c 3 rfl⟩
theorem Bx.f4 {W : World} {b : Nat} {v0 v1 v2 v3 : Value} (h : Bx W b [v0, v1, v2, v3]) : W.frozen? ⟨b, 0, none⟩ = false ∧ W.frozen? ⟨b, 1, none⟩ = false ∧ W.frozen? ⟨b, 2, none⟩ = false ∧ W.frozen? ⟨b, 3, none⟩ = false := ⟨h.f 0 rfl, h.f 1 rfl, h.f 2 rfl, h.f 3 rfl⟩
theorem Bx.c5 {W : World} {b : Nat} {v0 v1 v2 v3 v4 : Value} (h : Bx W b [v0, v1, v2, v3, v4]) : W.cell? ⟨b, 0, none⟩ = some v0 ∧ W.cell? ⟨b, 1, none⟩ = some v1 ∧ W.cell? ⟨b, 2, none⟩ = some v2 ∧ W.cell? ⟨b, 3, none⟩ = some v3 ∧ W.cell? ⟨b, 4, none⟩ = some v4 := ⟨h.c 0 rfl, h.c 1 rfl, h.c 2 rfl, h.c 3 rfl, h.c 4 rfl⟩
theorem bsn1 (w : World) (A0 : List Value) (a0 : TypeId) : Hid (BS w [(w.heap.size, A0)] (w.alloc (.cells A0.toArray a0))) := ((BS.start w).new A0 a0 rfl)
theorem bsn2 (w : World) (A0 : List Value) (a0 : TypeId) (A1 : List Value) (a1 : TypeId) : Hid (BS w [(w.heap.size + 1, A1), (w.heap.size, A0)] ((w.alloc (.cells A0.toArray a0)).alloc (.cells A1.toArray a1))) := (((BS.start w).new A0 a0 rfl).new A1 a1 (by simp))
theorem bsn3 (w : World) (A0 : List Value) (a0 : TypeId) (A1 : List Value) (a1 : TypeId) (A2 : List Value) (a2 : TypeId) : Hid (BS w [(w.heap.size + 2, A2), (w.heap.size + 1, A1), (w.heap.size, A0)] (((w.alloc (.cells A0.toArray a0)).alloc (.cells A1.toArray a1)).alloc (.cells A2.toArray a2))) := ((((BS.start w).new A0 a0 rfl).new A1 a1 (by simp)).new A2 a2 (by simp))
theorem bsn4 (w : World) (A0 : List Value) (a0 : TypeId) (A1 : List Value) (a1 : TypeId) (A2 : List Value) (a2 : TypeId) (A3 : List Value) (a3 : TypeId) : Hid (BS w [(w.heap.size + 3, A3), (w.heap.size + 2, A2), (w.heap.size + 1, A1), (w.heap.size, A0)] ((((w.alloc (.cells A0.toArray a0)).alloc (.cells A1.toArray a1)).alloc (.cells A2.toArray a2)).alloc (.cells A3.toArray a3))) := (((((BS.start w).new A0 a0 rfl).new A1 a1 (by simp)).new A2 a2 (by simp)).new A3 a3 (by simp))
theorem bsn5 (w : World) (A0 : List Value) (a0 : TypeId) (A1 : List Value) (a1 : TypeId) (A2 : List Value) (a2 : TypeId) (A3 : List Value) (a3 : TypeId) (A4 : List Value) (a4 : TypeId) : Hid (BS w [(w.heap.size + 4, A4), (w.heap.size + 3, A3), (w.heap.size + 2, A2), (w.heap.size + 1, A1), (w.heap.size, A0)] (((((w.alloc (.cells A0.toArray a0)).alloc (.cells A1.toArray a1)).alloc (.cells A2.toArray a2)).alloc (.cells A3.toArray a3)).alloc (.cells A4.toArray a4))) := ((((((BS.start w).new A0 a0 rfl).new A1 a1 (by simp)).new A2 a2 (by simp)).new A3 a3 (by simp)).new A4 a4 (by simp))
theorem Bx.rng {W : World} {b : Nat} {l : List Value} (h : Bx W b l) (p cs q : List Value) (e : l = p ++ (cs ++ q)) : W.rangeAt b p.length cs := fun j v hv => by
 refine (h.2 (p.length + j) v ?_).1
 have hj : j < cs.length := (List.getElem?_eq_some_iff.1 hv).1
 rw [e, List.getElem?_append_right (by omega), show p.length + j - p.length = j by omega, List.getElem?_append_left hj]
 exact hv
end Go.Proofs.YtklehbmghjcmaaaGreatDoor
