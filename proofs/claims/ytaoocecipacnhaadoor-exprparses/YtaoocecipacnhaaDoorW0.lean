import Derived.Test.YtaoocecipacnhaaDoorWz
import Derived.Test.YtaoocecipacnhaaDoorRows
import Derived.WalkKit
import Derived.WalkSpells
import Derived.WalkLawsBesides
import Derived.Deep.MidRow
import Derived.Deep.RegionHeld3
import Derived.Laws.RangeAny
import Derived.Lib.MapLaws
open Go.Value renaming int → vi
open Go.IntKind renaming i64 → ki
open List renaming setIfInBounds_toArray → zb, set_cons_zero → zc, set_cons_succ → zd
open Go.Act renaming put → za
open Go.Ending renaming returned → zr
set_option maxRecDepth 100000
set_option maxHeartbeats 16000000
set_option linter.unusedVariables false
namespace Go.Proofs.YtaoocecipacnhaaDoor
open Go.RowKit
def Bx (W : World) (b : Nat) (l : List Value) : Prop := b < W.heap.size ∧ ∀ i v, l[i]? = some v → W.cell? ⟨b, i, none⟩ = some v ∧ W.frozen? ⟨b, i, none⟩ = false
theorem Bx.below {W W' : World} {b : Nat} {l : List Value} (h : Bx W b l) (hb : Below W.heap.size W W') : Bx W' b l :=
 ⟨Nat.lt_of_lt_of_le h.1 hb.size, fun i v e => ⟨(hb.cell (p := ⟨b, i, none⟩) h.1).trans (h.2 i v e).1, (hb.frozen (p := ⟨b, i, none⟩) h.1).trans (h.2 i v e).2⟩⟩
theorem Bx.alloc {W : World} {b : Nat} {l : List Value} (h : Bx W b l) (o : Obj) : Bx (W.alloc o) b l := h.below ((Below.refl _ W).alloc (Nat.le_refl _) o)
theorem Bx.new (w : World) (l : List Value) (t : TypeId) : Bx (w.alloc (.cells l.toArray t)) w.heap.size l :=
 ⟨by simp, fun i v e => ⟨by rw [World.cell?_alloc_at _ _ _ _ rfl]; simpa using e, by rw [World.frozen?_alloc_at _ _ _ _ rfl]⟩⟩
theorem Bx.c {W : World} {b : Nat} {l : List Value} (h : Bx W b l) (i : Nat) {v : Value} (e : l[i]? = some v) : W.cell? ⟨b, i, none⟩ = some v := (h.2 i v e).1
theorem Bx.f {W : World} {b : Nat} {l : List Value} (h : Bx W b l) (i : Nat) {v : Value} (e : l[i]? = some v) : W.frozen? ⟨b, i, none⟩ = false := (h.2 i v e).2
theorem below_setCells {w : World} {b : Nat} (hb : w.heap.size ≤ b) : ∀ (vs : List Value) (W : World) (i : Nat), Below w.heap.size w W → Below w.heap.size w (W.setCells b i vs)
 | [], _, _, h => h
 | v :: vs, W, i, h => below_setCells hb vs _ _ (h.setCell (p := ⟨b, i, none⟩) hb v)
theorem setCells_size (b : Nat) : ∀ (vs : List Value) (W : World) (i : Nat), (W.setCells b i vs).heap.size = W.heap.size
 | [], _, _ => rfl
 | v :: vs, W, i => by rw [World.setCells, setCells_size b vs]; simp
theorem setCells_off (b : Nat) (vs : List Value) (W : World) (i : Nat) (p : Addr) (h : p.block ≠ b) : (W.setCells b i vs).cell? p = W.cell? p :=
 World.cell?_setCells_out b vs i W p (fun e _ => absurd e h)
theorem Bx.there {W : World} {b : Nat} {l : List Value} (h : Bx W b l) : W.there b 0 l.length := fun j hj => by
 have := h.2 j l[j] (List.getElem?_eq_getElem hj)
 rw [Nat.zero_add]
 exact ⟨by rw [this.1]; rfl, this.2⟩
theorem Bx.all {W : World} {b : Nat} {l : List Value} (h : Bx W b l) : W.rangeAt b 0 l := fun j v hv => by rw [Nat.zero_add]; exact (h.2 j v hv).1
theorem Bx.setAll {W : World} {b : Nat} {l : List Value} (h : Bx W b l) (vs : List Value) (hl : l.length = vs.length) : Bx (W.setCells b 0 vs) b vs :=
 ⟨by rw [setCells_size]; exact h.1, fun i v e => by
  have hi := (List.getElem?_eq_some_iff.1 e).1
  refine ⟨?_, ?_⟩
  ·have := World.rangeAt_setCells_same W b 0 vs (hl ▸ h.there) i v e
   rwa [Nat.zero_add] at this
  ·rw [World.frozen?_setCells]; exact (h.2 i l[i] (List.getElem?_eq_getElem (by omega))).2⟩
theorem Bx.setOther {W : World} {b' b : Nat} {l : List Value} (h : Bx W b' l) (hb : b' ≠ b) (vs : List Value) (j : Nat := 0) : Bx (W.setCells b j vs) b' l :=
 ⟨by rw [setCells_size]; exact h.1, fun i v e => ⟨by rw [setCells_off b vs _ _ _ hb]; exact (h.2 i v e).1, by rw [World.frozen?_setCells]; exact (h.2 i v e).2⟩⟩
def BS (w : World) (l : List (Nat × List Value)) (W : World) : Prop := Below w.heap.size w W ∧ ∀ x ∈ l, w.heap.size ≤ x.1 ∧ Bx W x.1 x.2
theorem BS.start (w : World) : BS w [] w := ⟨Below.refl _ _, fun x h => by cases h⟩
theorem BS.below {w W V : World} {l : List (Nat × List Value)} (h : BS w l W) (hb : Below W.heap.size W V) : BS w l V :=
 ⟨h.1.trans (hb.mono h.1.size), fun x hx => ⟨(h.2 x hx).1, (h.2 x hx).2.below hb⟩⟩
theorem BS.drew {w W : World} {l : List (Nat × List Value)} (h : BS w l W) : BS w l W.drew := ⟨h.1.drew, h.2⟩
theorem BS.alloc {w W : World} {l : List (Nat × List Value)} (h : BS w l W) (o : Obj) : BS w l (W.alloc o) := h.below ((Below.refl _ W).alloc (Nat.le_refl _) o)
theorem BS.new {w W : World} {l : List (Nat × List Value)} (h : BS w l W) (cs : List Value) (t : TypeId) {b : Nat} (hb : W.heap.size = b) : BS w ((b, cs) :: l) (W.alloc (.cells cs.toArray t)) :=
 ⟨(h.alloc _).1, fun x hx => by
  rcases List.mem_cons.1 hx with rfl | hx
  ·exact ⟨by rw [← hb]; exact h.1.size, by rw [← hb]; exact Bx.new W cs t⟩
  ·exact (h.alloc _).2 x hx⟩
theorem BS.first {w W : World} {l : List (Nat × List Value)} {b : Nat} {cs : List Value} (h : BS w ((b, cs) :: l) W) : Bx W b cs := (h.2 (b, cs) List.mem_cons_self).2
theorem BS.at {w W : World} {l : List (Nat × List Value)} (h : BS w l W) (b : Nat) (cs : List Value) (hm : (b, cs) ∈ l) : Bx W b cs := (h.2 (b, cs) hm).2
theorem BS.set {w W : World} {l : List (Nat × List Value)} {b : Nat} {cs : List Value} (h : BS w ((b, cs) :: l) W) (vs : List Value) (hl : cs.length = vs.length) (hn : ∀ x ∈ l, x.1 ≠ b) : BS w ((b, vs) :: l) (W.setCells b 0 vs) :=
 ⟨below_setCells (h.2 (b, cs) List.mem_cons_self).1 vs W 0 h.1, fun x hx => by
  rcases List.mem_cons.1 hx with rfl | hx
  ·exact ⟨(h.2 (b, cs) List.mem_cons_self).1, h.first.setAll vs hl⟩
  ·exact ⟨(h.2 x (List.mem_cons_of_mem _ hx)).1, (h.2 x (List.mem_cons_of_mem _ hx)).2.setOther (hn x hx) vs⟩⟩
theorem gen_to {P : Program} {c : Code} {Q : Exit → Act → World → Prop} {a : Act} {w1 : World} (T : World → Prop) (h : T w1) (k : ∀ w2, T w2 → Code.wp P c Q a w2) : Code.wp P c Q a w1 := k _ h
theorem Bx.cf4 {W : World} {b : Nat} {v0 v1 v2 v3 : Value} (h : Bx W b [v0, v1, v2, v3]) : W.cell? ⟨b, 0, none⟩ = some v0 ∧ W.cell? ⟨b, 1, none⟩ = some v1 ∧ W.cell? ⟨b, 2, none⟩ = some v2 ∧ W.cell? ⟨b, 3, none⟩ = some v3 ∧ W.frozen? ⟨b, 0, none⟩ = false ∧ W.frozen? ⟨b, 1, none⟩ = false ∧ W.frozen? ⟨b, 2, none⟩ = false ∧ W.frozen? ⟨b, 3, none⟩ = false := ⟨h.c 0 rfl, h.c 1 rfl, h.c 2 rfl, h.c 3 rfl, h.f 0 rfl, h.f 1 rfl, h.f 2 rfl, h.f 3 rfl⟩
theorem Bx.d4 {W : World} {b : Nat} {v0 v1 v2 v3 : Value} (h : Bx W b [v0, v1, v2, v3]) : W.cell? ⟨b, 0, none⟩ = some v0 ∧ W.cell? ⟨b, 1, none⟩ = some v1 ∧ W.cell? ⟨b, 2, none⟩ = some v2 ∧ W.cell? ⟨b, 3, none⟩ = some v3 := ⟨h.c 0 rfl, h.c 1 rfl, h.c 2 rfl, h.c 3 rfl⟩
theorem bsn1 (w : World) (A0 : List Value) (a0 : TypeId) : Hid (BS w [(w.heap.size, A0)] (w.alloc (.cells A0.toArray a0))) := ((BS.start w).new A0 a0 rfl)
theorem bsn2 (w : World) (A0 : List Value) (a0 : TypeId) (A1 : List Value) (a1 : TypeId) : Hid (BS w [(w.heap.size + 1, A1), (w.heap.size, A0)] ((w.alloc (.cells A0.toArray a0)).alloc (.cells A1.toArray a1))) := (((BS.start w).new A0 a0 rfl).new A1 a1 (by simp))
theorem bsn3 (w : World) (A0 : List Value) (a0 : TypeId) (A1 : List Value) (a1 : TypeId) (A2 : List Value) (a2 : TypeId) : Hid (BS w [(w.heap.size + 2, A2), (w.heap.size + 1, A1), (w.heap.size, A0)] (((w.alloc (.cells A0.toArray a0)).alloc (.cells A1.toArray a1)).alloc (.cells A2.toArray a2))) := ((((BS.start w).new A0 a0 rfl).new A1 a1 (by simp)).new A2 a2 (by simp))
theorem bsn4 (w : World) (A0 : List Value) (a0 : TypeId) (A1 : List Value) (a1 : TypeId) (A2 : List Value) (a2 : TypeId) (A3 : List Value) (a3 : TypeId) : Hid (BS w [(w.heap.size + 3, A3), (w.heap.size + 2, A2), (w.heap.size + 1, A1), (w.heap.size, A0)] ((((w.alloc (.cells A0.toArray a0)).alloc (.cells A1.toArray a1)).alloc (.cells A2.toArray a2)).alloc (.cells A3.toArray a3))) := (((((BS.start w).new A0 a0 rfl).new A1 a1 (by simp)).new A2 a2 (by simp)).new A3 a3 (by simp))
theorem bsn5 (w : World) (A0 : List Value) (a0 : TypeId) (A1 : List Value) (a1 : TypeId) (A2 : List Value) (a2 : TypeId) (A3 : List Value) (a3 : TypeId) (A4 : List Value) (a4 : TypeId) : Hid (BS w [(w.heap.size + 4, A4), (w.heap.size + 3, A3), (w.heap.size + 2, A2), (w.heap.size + 1, A1), (w.heap.size, A0)] (((((w.alloc (.cells A0.toArray a0)).alloc (.cells A1.toArray a1)).alloc (.cells A2.toArray a2)).alloc (.cells A3.toArray a3)).alloc (.cells A4.toArray a4))) := ((((((BS.start w).new A0 a0 rfl).new A1 a1 (by simp)).new A2 a2 (by simp)).new A3 a3 (by simp)).new A4 a4 (by simp))
theorem Bx.rng {W : World} {b : Nat} {l : List Value} (h : Bx W b l) (p cs q : List Value) (e : l = p ++ (cs ++ q)) : W.rangeAt b p.length cs := fun j v hv => by
 refine (h.2 (p.length + j) v ?_).1
 have hj : j < cs.length := (List.getElem?_eq_some_iff.1 hv).1
 rw [e, List.getElem?_append_right (by omega), show p.length + j - p.length = j by omega, List.getElem?_append_left hj]
 exact hv
theorem Bx.c2 {W : World} {b : Nat} {v0 v1 : Value} (h : Bx W b [v0, v1]) : W.cell? ⟨b, 0, none⟩ = some v0 ∧ W.cell? ⟨b, 1, none⟩ = some v1 := ⟨h.c 0 rfl, h.c 1 rfl⟩
theorem Bx.c3 {W : World} {b : Nat} {v0 v1 v2 : Value} (h : Bx W b [v0, v1, v2]) : W.cell? ⟨b, 0, none⟩ = some v0 ∧ W.cell? ⟨b, 1, none⟩ = some v1 ∧ W.cell? ⟨b, 2, none⟩ = some v2 := ⟨h.c 0 rfl, h.c 1 rfl, h.c 2 rfl⟩
theorem Bx.c4 {W : World} {b : Nat} {v0 v1 v2 v3 : Value} (h : Bx W b [v0, v1, v2, v3]) : W.cell? ⟨b, 0, none⟩ = some v0 ∧ W.cell? ⟨b, 1, none⟩ = some v1 ∧ W.cell? ⟨b, 2, none⟩ = some v2 ∧ W.cell? ⟨b, 3, none⟩ = some v3 := ⟨h.c 0 rfl, h.c 1 rfl, h.c 2 rfl, h.c 3 rfl⟩
theorem Bx.c5 {W : World} {b : Nat} {v0 v1 v2 v3 v4 : Value} (h : Bx W b [v0, v1, v2, v3, v4]) : W.cell? ⟨b, 0, none⟩ = some v0 ∧ W.cell? ⟨b, 1, none⟩ = some v1 ∧ W.cell? ⟨b, 2, none⟩ = some v2 ∧ W.cell? ⟨b, 3, none⟩ = some v3 ∧ W.cell? ⟨b, 4, none⟩ = some v4 := ⟨h.c 0 rfl, h.c 1 rfl, h.c 2 rfl, h.c 3 rfl, h.c 4 rfl⟩
theorem BS.tail {w W : World} {l : List (Nat × List Value)} {x : Nat × List Value} (h : BS w (x :: l) W) : BS w l W := ⟨h.1, fun y hy => h.2 y (List.mem_cons_of_mem _ hy)⟩
theorem Bx.set1 {W : World} {b : Nat} {l : List Value} (h : Bx W b l) (i : Nat) (v : Value) (hi : i < l.length) : Bx (W.setCell ⟨b, i, none⟩ v) b (l.set i v) :=
 ⟨by simpa using h.1, fun j x e => by
  by_cases hj : i = j
  ·subst hj
   rw [List.getElem?_set_self hi] at e
   cases e
   exact ⟨World.cell?_setCell_same _ _ _ (h.2 i l[i] (List.getElem?_eq_getElem hi)).1, by rw [World.frozen?_setCell]; exact (h.2 i l[i] (List.getElem?_eq_getElem hi)).2⟩
  ·rw [List.getElem?_set_ne hj] at e
   exact ⟨(World.cell?_setCell_other _ _ _ _ (fun q => hj (by cases q; rfl))).trans (h.2 j x e).1, by rw [World.frozen?_setCell]; exact (h.2 j x e).2⟩⟩
theorem BS.set1 {w W : World} {l : List (Nat × List Value)} {b : Nat} {cs : List Value} (h : BS w ((b, cs) :: l) W) (i : Nat) (v : Value) (hi : i < cs.length) (hn : ∀ x ∈ l, x.1 ≠ b) : BS w ((b, cs.set i v) :: l) (W.setCell ⟨b, i, none⟩ v) :=
 ⟨h.1.setCell (p := ⟨b, i, none⟩) (h.2 (b, cs) List.mem_cons_self).1 v, fun x hx => by
  rcases List.mem_cons.1 hx with rfl | hx
  ·exact ⟨(h.2 (b, cs) List.mem_cons_self).1, h.first.set1 i v hi⟩
  ·exact ⟨(h.2 x (List.mem_cons_of_mem _ hx)).1, (h.2 x (List.mem_cons_of_mem _ hx)).2.setOther (hn x hx) [v] i⟩⟩
def BW (w W : World) : Prop := Below w.heap.size w W
theorem BW.below {w W V : World} (h : BW w W) (hb : Below W.heap.size W V) : BW w V := Below.trans h (hb.mono h.size)
theorem BW.drew {w W : World} (h : BW w W) : BW w W.drew := Below.drew h
def NB (w : World) (l : List (Nat × List Value)) (W : World) (b : Nat) (cs : List Value) : Prop := Bx W b cs ∧ w.heap.size ≤ b ∧ ∀ x ∈ l, x.1 ≠ b
theorem NB.below {w V V' : World} {l : List (Nat × List Value)} {b : Nat} {cs : List Value} (h : NB w l V b cs) (hb : Below V.heap.size V V') : NB w l V' b cs := ⟨h.1.below hb, h.2⟩
theorem BS.off {w W : World} {l : List (Nat × List Value)} (h : BS w l W) {b : Nat} (hb : w.heap.size ≤ b) (hn : ∀ x ∈ l, x.1 ≠ b) (vs : List Value) : BS w l (W.setCells b 0 vs) :=
 ⟨below_setCells hb vs W 0 h.1, fun x hx => ⟨(h.2 x hx).1, (h.2 x hx).2.setOther (hn x hx) vs⟩⟩
end Go.Proofs.YtaoocecipacnhaaDoor
namespace Go.Proofs.YtaoocecipacnhaaDoor
abbrev Tk := Int × ByteArray × Int
def qB : ByteArray := ⟨#[39]⟩
def besT (p q : Tk) : Bool := decide (q.2.2 = p.2.2 + (p.2.1.size : Int))
def qt (p : Tk) : Bool := decide (p.2.1 = qB)
def toQ : Nat → List Tk → Nat
 | _, [] => 0
 | i, [p] => if qt p then i + 1 else 0
 | i, p :: q :: l => if qt p then (if besT p q && qt q then toQ (i + 2) l else i + 1) else toQ (i + 1) (q :: l)
def toS : Nat → Tk → List Tk → Nat
 | m, _, [] => m
 | m, p, q :: l => if besT p q && decide (q.1 ≠ 3) then toS (m + 1) q l else m
def isPr (t : ByteArray) : Bool := decide (t = ⟨#[60, 61]⟩) || decide (t = ⟨#[62, 61]⟩) || decide (t = ⟨#[60, 62]⟩) || decide (t = ⟨#[58, 58]⟩)
def prT : Tk → List Tk → Bool
 | p, q :: _ => besT p q && isPr (p.2.1 ++ q.2.1)
 | _, [] => false
def dcT : Tk → List Tk → Bool
 | p, q :: r :: _ => besT p q && decide (q.2.1 = ⟨#[46]⟩) && besT q r && decide (r.1 = 1)
 | _, _ => false
def fstT (p : Tk) (l : List Tk) : Int × Nat :=
 if qt p then (3, toQ 1 l)
 else if p.1 = 2 then (4, toS 1 p l)
 else if p.1 = 3 then (5, if prT p l then 2 else 1)
 else if dcT p l then (2, 3) else (1, 1)
def unq : List UInt8 → List UInt8
 | [] => []
 | [c] => [c]
 | a :: b :: l => if a = 39 ∧ b = 39 then 39 :: unq l else a :: unq (b :: l)
inductive Nd where
 | mk (k : Int) (t : ByteArray) (ks : List Nd) (at_ : Int) : Nd
abbrev Nd.k : Nd → Int | .mk k _ _ _ => k
abbrev Nd.t : Nd → ByteArray | .mk _ t _ _ => t
abbrev Nd.ks : Nd → List Nd | .mk _ _ ks _ => ks
abbrev Nd.at_ : Nd → Int | .mk _ _ _ a => a
inductive PR where
 | ok (n : Nd) (l : List Tk) : PR
 | no (at_ : Int) (e : Int) : PR
def orB : ByteArray := ⟨#[111, 114]⟩
def andB : ByteArray := ⟨#[97, 110, 100]⟩
def notB : ByteArray := ⟨#[110, 111, 116]⟩
def atB : ByteArray := ⟨#[97, 116]⟩
def timeB : ByteArray := ⟨#[116, 105, 109, 101]⟩
def zoneB : ByteArray := ⟨#[122, 111, 110, 101]⟩
def atzB : ByteArray := ⟨#[97, 116, 32, 116, 105, 109, 101, 32, 122, 111, 110, 101]⟩
def trueB : ByteArray := ⟨#[116, 114, 117, 101]⟩
def falseB : ByteArray := ⟨#[102, 97, 108, 115, 101]⟩
def dateB : ByteArray := ⟨#[100, 97, 116, 101]⟩
def stampB : ByteArray := ⟨#[116, 105, 109, 101, 115, 116, 97, 109, 112]⟩
def tzB : ByteArray := ⟨#[116, 105, 109, 101, 115, 116, 97, 109, 112, 116, 122]⟩
def ivB : ByteArray := ⟨#[105, 110, 116, 101, 114, 118, 97, 108]⟩
def b1 (c : UInt8) : ByteArray := ⟨#[c]⟩
def b2 (c d : UInt8) : ByteArray := ⟨#[c, d]⟩
def isT (p : Tk) (l : List (Int × ByteArray)) : Bool := l.any fun x => decide (p.1 = x.1 ∧ p.2.1 = x.2)
def sgs : Nat → List (Int × ByteArray)
 | 0 => [(4, orB)]
 | 1 => [(4, andB)]
 | 3 => [(5, b1 61), (5, b2 60 62), (5, b1 60), (5, b2 60 61), (5, b1 62), (5, b2 62 61)]
 | 4 => [(5, b1 43), (5, b1 45)]
 | _ => [(5, b1 42), (5, b1 47), (5, b1 37)]
def rsvd (t : ByteArray) : Bool := decide (t = trueB) || decide (t = falseB) || decide (t = notB) || decide (t = andB) || decide (t = orB) || decide (t = atB) || decide (t = timeB) || decide (t = zoneB)
def free (p : Tk) : Bool := !rsvd p.2.1 && decide (p.1 = 4)
def typB (t : ByteArray) : Bool := decide (t = dateB) || decide (t = stampB) || decide (t = tzB) || decide (t = ivB)
inductive Tg where
 | lv (l : Nat) : Tg
 | lp (l : Nat) (n : Nd) : Tg
 | zs (n : Nd) : Tg
 | cs (n : Nd) : Tg
 | ks (acc : List Nd) : Tg
def cmpK (r : Tg → Nat → List Tk → PR) (d : Nat) (n : Nd) : List Tk → PR
 | [] => .no 0 0
 | q :: l1 =>
  if isT q (sgs 3) then
   match r (.lv 4) d l1 with
   | .ok m l2 => .ok (.mk 8 q.2.1 [n, m] q.2.2) l2
   | .no a e => .no a e
  else .ok n (q :: l1)
def pst (r : Tg → Nat → List Tk → PR) : Tg → Nat → List Tk → PR
 | _, _, [] => .no 0 0
 | .lv lev, d, p :: l =>
  if lev = 2 then
   if isT p [(4, notB)] then
    if d = 20 then .no p.2.2 31
    else match r (.lv 2) (d + 1) l with
     | .ok n l1 => .ok (.mk 7 ByteArray.empty [n] p.2.2) l1
     | .no a e => .no a e
   else r (.lv 3) d (p :: l)
  else if lev = 6 then
   if isT p [(5, b1 45)] then
    if d = 20 then .no p.2.2 31
    else match r (.lv 6) (d + 1) l with
     | .ok n l1 => .ok (.mk 6 ByteArray.empty [n] p.2.2) l1
     | .no a e => .no a e
   else r (.lv 7) d (p :: l)
  else if lev = 3 then
   match r (.lv 4) d (p :: l) with
   | .ok n l1 => cmpK r d n l1
   | .no a e => .no a e
  else if lev = 7 then
   match r (.lv 8) d (p :: l) with
   | .ok n l1 => r (.zs n) d l1
   | .no a e => .no a e
  else if lev = 8 then
   match r (.lv 9) d (p :: l) with
   | .ok n l1 => r (.cs n) d l1
   | .no a e => .no a e
  else if lev = 9 then
   if p.1 = 1 then .ok (.mk 1 p.2.1 [] p.2.2) l
   else if p.1 = 2 then .ok (.mk 2 p.2.1 [] p.2.2) l
   else if p.1 = 3 then .ok (.mk 3 p.2.1 [] p.2.2) l
   else if isT p [(4, trueB), (4, falseB)] then .ok (.mk 4 p.2.1 [] p.2.2) l
   else if isT p [(5, b1 40)] then
    if d = 20 then .no p.2.2 31
    else match r (.lv 0) (d + 1) l with
     | .no a e => .no a e
     | .ok n [] => .no 0 0
     | .ok n (q :: l1) => if isT q [(5, b1 41)] then .ok n l1 else .no q.2.2 30
   else if free p then
    match l with
    | [] => .no 0 0
    | q :: l1 =>
     if q.1 = 3 ∧ typB p.2.1 = true then .ok (.mk 5 p.2.1 [.mk 3 q.2.1 [] q.2.2] p.2.2) l1
     else if isT q [(5, b1 40)] then
      if d = 20 then .no p.2.2 31
      else match l1 with
       | [] => .no 0 0
       | u :: l2 =>
        if isT u [(5, b1 41)] then .ok (.mk 9 p.2.1 [] p.2.2) l2
        else match r (.ks []) (d + 1) (u :: l2) with
         | .no a e => .no a e
         | .ok n l3 => .ok (.mk 9 p.2.1 n.ks p.2.2) l3
     else .no q.2.2 30
   else .no p.2.2 30
  else
   match r (.lv (lev + 1)) d (p :: l) with
   | .ok n l1 => r (.lp lev n) d l1
   | .no a e => .no a e
 | .lp lev n, d, q :: l =>
  if isT q (sgs lev) then
   match r (.lv (lev + 1)) d l with
   | .ok m l1 => r (.lp lev (.mk 8 q.2.1 [n, m] q.2.2)) d l1
   | .no a e => .no a e
  else .ok n (q :: l)
 | .zs n, d, q :: l =>
  if isT q [(4, atB)] then
   match l with
   | [] => .no 0 0
   | t :: l1 =>
    if isT t [(4, timeB)] then
     match l1 with
     | [] => .no 0 0
     | z :: l2 =>
      if isT z [(4, zoneB)] then
       match r (.lv 8) d l2 with
       | .ok m l3 => r (.zs (.mk 8 atzB [n, m] q.2.2)) d l3
       | .no a e => .no a e
      else .no z.2.2 30
    else .no t.2.2 30
  else .ok n (q :: l)
 | .cs n, d, q :: l =>
  if isT q [(5, b2 58 58)] then
   match l with
   | [] => .no 0 0
   | t :: l1 => if free t then r (.cs (.mk 10 t.2.1 [n] q.2.2)) d l1 else .no t.2.2 30
  else .ok n (q :: l)
 | .ks acc, d, p :: l =>
  match r (.lv 0) d (p :: l) with
  | .no a e => .no a e
  | .ok n [] => .no 0 0
  | .ok n (q :: l1) =>
   if isT q [(5, b1 44)] then r (.ks (acc ++ [n])) d l1
   else if isT q [(5, b1 41)] then .ok (.mk 9 ByteArray.empty (acc ++ [n]) 0) l1
   else .no q.2.2 30
def par : Nat → Tg → Nat → List Tk → PR
 | 0 => fun _ _ _ => .no 0 0
 | f + 1 => pst (par f)
theorem par_succ (f : Nat) (g : Tg) (d : Nat) (l : List Tk) : par (f + 1) g d l = pst (par f) g d l := rfl
def EndL : List Tk → Prop
 | [] => False
 | [p] => p.1 = 0
 | p :: q :: l => p.1 ≠ 0 ∧ EndL (q :: l)
theorem EndL.tail {p : Tk} {l : List Tk} (h : EndL (p :: l)) (hp : p.1 ≠ 0) : EndL l := by
 cases l with
 | nil => exact absurd h hp
 | cons q l => exact h.2
theorem EndL.cons {l : List Tk} (h : EndL l) : ∃ p l', l = p :: l' := by
 cases l with
 | nil => exact h.elim
 | cons p l => exact ⟨p, l, rfl⟩
theorem isT_kind {p : Tk} {l : List (Int × ByteArray)} (h : isT p l = true) (hl : ∀ x ∈ l, x.1 ≠ 0) : p.1 ≠ 0 := by
 obtain ⟨x, hx, hd⟩ := List.any_eq_true.1 h
 have := of_decide_eq_true hd
 rw [this.1]; exact hl x hx
theorem free_kind {p : Tk} (h : free p = true) : p.1 ≠ 0 := by
 unfold free at h
 have := of_decide_eq_true (Bool.and_eq_true_iff.1 h).2
 omega
theorem sgs_kind (lev : Nat) : ∀ x ∈ sgs lev, x.1 ≠ 0 := by
 intro x hx
 unfold sgs at hx
 split at hx <;> simp at hx <;> (first | (rcases hx with rfl | rfl | rfl | rfl | rfl | rfl <;> decide) | (rcases hx with rfl | rfl | rfl <;> decide) | (rcases hx with rfl | rfl <;> decide) | (subst hx; decide))
def need : Tg → List Tk → Nat
 | .lv lev, l => 10 * l.length + 10 - lev
 | .ks _, l => 10 * l.length + 11
 | _, l => 10 * l.length + 1
def most : Tg → List Tk → Nat
 | .lv _, l => l.length - 1
 | .ks _, l => l.length - 1
 | _, l => l.length
def okTg : Tg → Prop
 | .lv lev => lev ≤ 9
 | .lp lev _ => lev ≤ 5
 | _ => True
inductive PlN (S : Int → Prop) : Nd → Prop where
 | mk (k : Int) (t : ByteArray) (ks : List Nd) (a : Int) (ha : S a) (hk : ∀ n ∈ ks, PlN S n) : PlN S (.mk k t ks a)
def PlT (S : Int → Prop) : Tg → Prop
 | .lv _ => True
 | .lp _ n => PlN S n
 | .zs n => PlN S n
 | .cs n => PlN S n
 | .ks l => ∀ n ∈ l, PlN S n
def PlK (S : Int → Prop) : Tg → Nd → Prop
 | .ks _, n => ∀ m ∈ n.ks, PlN S m
 | _, n => PlN S n
def GoodR (S E : Int → Prop) (g : Tg) (l : List Tk) : PR → Prop
 | .ok n l1 => EndL l1 ∧ l1.length ≤ most g l ∧ (∃ pre, l = pre ++ l1) ∧ PlK S g n
 | .no a e => (e = 30 ∨ e = 31) ∧ E a
theorem suf_mem {α : Type} {l l1 : List α} (h : ∃ pre, l = pre ++ l1) {x : α} (hx : x ∈ l1) : x ∈ l := by
 obtain ⟨pre, rfl⟩ := h; exact List.mem_append_right _ hx
theorem suf_trans {α : Type} {l l1 l2 : List α} (h : ∃ pre, l = pre ++ l1) (k : ∃ pre, l1 = pre ++ l2) : ∃ pre, l = pre ++ l2 := by
 obtain ⟨a, rfl⟩ := h; obtain ⟨b, rfl⟩ := k; exact ⟨a ++ b, by simp⟩
theorem suf_cons {α : Type} (x : α) (l : List α) : ∃ pre, x :: l = pre ++ l := ⟨[x], rfl⟩
theorem suf_self {α : Type} (l : List α) : ∃ pre, l = pre ++ l := ⟨[], rfl⟩
def TkOk (S E : Int → Prop) (l : List Tk) : Prop := EndL l ∧ (∀ p ∈ l, p.1 ≠ 0 → S p.2.2) ∧ ∀ p ∈ l, E p.2.2
theorem TkOk.suf {S E : Int → Prop} {l l1 : List Tk} (h : TkOk S E l) (k : ∃ pre, l = pre ++ l1) (he : EndL l1) : TkOk S E l1 :=
 ⟨he, fun p hp => h.2.1 p (suf_mem k hp), fun p hp => h.2.2 p (suf_mem k hp)⟩
theorem TkOk.tail {S E : Int → Prop} {p : Tk} {l : List Tk} (h : TkOk S E (p :: l)) (hp : p.1 ≠ 0) : TkOk S E l := h.suf (suf_cons _ _) (h.1.tail hp)
theorem TkOk.s {S E : Int → Prop} {p : Tk} {l : List Tk} (h : TkOk S E (p :: l)) (hp : p.1 ≠ 0) : S p.2.2 := h.2.1 p List.mem_cons_self hp
theorem TkOk.e {S E : Int → Prop} {p : Tk} {l : List Tk} (h : TkOk S E (p :: l)) : E p.2.2 := h.2.2 p List.mem_cons_self
theorem PlN.leaf {S : Int → Prop} {k : Int} {t : ByteArray} {a : Int} (h : S a) : PlN S (.mk k t [] a) := .mk _ _ _ _ h (fun n hn => by cases hn)
theorem PlN.one {S : Int → Prop} {k : Int} {t : ByteArray} {a : Int} {n : Nd} (h : S a) (hn : PlN S n) : PlN S (.mk k t [n] a) := .mk _ _ _ _ h (fun m hm => by simp at hm; subst hm; exact hn)
theorem PlN.two {S : Int → Prop} {k : Int} {t : ByteArray} {a : Int} {n m : Nd} (h : S a) (hn : PlN S n) (hm : PlN S m) : PlN S (.mk k t [n, m] a) := .mk _ _ _ _ h (fun x hx => by simp at hx; rcases hx with rfl | rfl <;> assumption)
theorem PlN.kids {S : Int → Prop} {k : Int} {t : ByteArray} {ks : List Nd} {a : Int} (h : S a) (hk : ∀ m ∈ ks, PlN S m) : PlN S (.mk k t ks a) := .mk _ _ _ _ h hk
theorem GoodR.no {S E : Int → Prop} {g g' : Tg} {l l' : List Tk} {a e : Int} (h : GoodR S E g l (.no a e)) : GoodR S E g' l' (.no a e) := h
theorem par_good (S E : Int → Prop) : ∀ (f : Nat) (g : Tg) (d : Nat) (l : List Tk), okTg g → TkOk S E l → PlT S g → need g l ≤ f → GoodR S E g l (par f g d l)
 | 0, g, d, l, hg, hl, hp, hf => by
  exfalso
  obtain ⟨p, l', rfl⟩ := hl.1.cons
  cases g <;> simp only [need, okTg, List.length_cons] at hf hg <;> omega
 | f + 1, g, d, [], hg, hl, hp, hf => hl.1.elim
 | f + 1, .lv lev, d, p :: l, hg, hl, hp, hf => by
  have ih := par_good S E f
  simp only [need, List.length_cons] at hf
  simp only [okTg] at hg
  rw [par_succ]; unfold pst; dsimp only
  by_cases h2 : lev = 2
  ·rw [if_pos h2]
   by_cases hi : isT p [(4, notB)] = true
   ·rw [if_pos hi]
    have hk := isT_kind hi (by simp)
    by_cases hd : d = 20
    ·rw [if_pos hd]; exact ⟨.inr rfl, hl.e⟩
    ·rw [if_neg hd]
     have q := ih (.lv 2) (d + 1) l (by simp [okTg]) (hl.tail hk) trivial (by simp only [need]; omega)
     cases hr : par f (.lv 2) (d + 1) l with
     | no a e => rw [hr] at q; exact q
     | ok n l1 =>
      rw [hr] at q
      exact ⟨q.1, by have := q.2.1; simp only [most, List.length_cons] at this ⊢; omega, suf_trans (suf_cons _ _) q.2.2.1, PlN.one (hl.s hk) q.2.2.2⟩
   ·rw [if_neg hi]
    have q := ih (.lv 3) d (p :: l) (by simp [okTg]) hl trivial (by simp only [need, List.length_cons]; omega)
    cases hr : par f (.lv 3) d (p :: l) with
    | no a e => rw [hr] at q; exact q
    | ok n l1 => rw [hr] at q; exact q
  rw [if_neg h2]
  by_cases h6 : lev = 6
  ·rw [if_pos h6]
   by_cases hi : isT p [(5, b1 45)] = true
   ·rw [if_pos hi]
    have hk := isT_kind hi (by simp)
    by_cases hd : d = 20
    ·rw [if_pos hd]; exact ⟨.inr rfl, hl.e⟩
    ·rw [if_neg hd]
     have q := ih (.lv 6) (d + 1) l (by simp [okTg]) (hl.tail hk) trivial (by simp only [need]; omega)
     cases hr : par f (.lv 6) (d + 1) l with
     | no a e => rw [hr] at q; exact q
     | ok n l1 =>
      rw [hr] at q
      exact ⟨q.1, by have := q.2.1; simp only [most, List.length_cons] at this ⊢; omega, suf_trans (suf_cons _ _) q.2.2.1, PlN.one (hl.s hk) q.2.2.2⟩
   ·rw [if_neg hi]
    have q := ih (.lv 7) d (p :: l) (by simp [okTg]) hl trivial (by simp only [need, List.length_cons]; omega)
    cases hr : par f (.lv 7) d (p :: l) with
    | no a e => rw [hr] at q; exact q
    | ok n l1 => rw [hr] at q; exact q
  rw [if_neg h6]
  by_cases h3 : lev = 3
  ·rw [if_pos h3]
   have q := ih (.lv 4) d (p :: l) (by simp [okTg]) hl trivial (by simp only [need, List.length_cons]; omega)
   cases hr : par f (.lv 4) d (p :: l) with
   | no a e => rw [hr] at q; exact q
   | ok n l1 =>
    rw [hr] at q
    have hl1 := hl.suf q.2.2.1 q.1
    have hm := q.2.1
    simp only [most, List.length_cons] at hm
    obtain ⟨x, l2, rfl⟩ := q.1.cons
    dsimp only [cmpK]
    by_cases hi : isT x (sgs 3) = true
    ·rw [if_pos hi]
     have hk := isT_kind hi (sgs_kind 3)
     simp only [List.length_cons] at hm
     have q2 := ih (.lv 4) d l2 (by simp [okTg]) (hl1.tail hk) trivial (by simp only [need]; omega)
     cases hr2 : par f (.lv 4) d l2 with
     | no a e => rw [hr2] at q2; exact q2
     | ok m l3 =>
      rw [hr2] at q2
      have := q2.2.1
      simp only [most] at this
      exact ⟨q2.1, by simp only [most, List.length_cons]; omega, suf_trans (suf_trans q.2.2.1 (suf_cons _ _)) q2.2.2.1, PlN.two (hl1.s hk) q.2.2.2 q2.2.2.2⟩
    ·rw [if_neg hi]; exact q
  rw [if_neg h3]
  by_cases h7 : lev = 7
  ·rw [if_pos h7]
   have q := ih (.lv 8) d (p :: l) (by simp [okTg]) hl trivial (by simp only [need, List.length_cons]; omega)
   cases hr : par f (.lv 8) d (p :: l) with
   | no a e => rw [hr] at q; exact q
   | ok n l1 =>
    rw [hr] at q
    have hm := q.2.1
    simp only [most, List.length_cons] at hm
    have q2 := ih (.zs n) d l1 trivial (hl.suf q.2.2.1 q.1) q.2.2.2 (by simp only [need]; omega)
    dsimp only
    cases hr2 : par f (.zs n) d l1 with
    | no a e => rw [hr2] at q2; exact q2
    | ok m l3 =>
     rw [hr2] at q2
     have := q2.2.1
     simp only [most] at this
     exact ⟨q2.1, by simp only [most, List.length_cons]; omega, suf_trans q.2.2.1 q2.2.2.1, q2.2.2.2⟩
  rw [if_neg h7]
  by_cases h8 : lev = 8
  ·rw [if_pos h8]
   have q := ih (.lv 9) d (p :: l) (by simp [okTg]) hl trivial (by simp only [need, List.length_cons]; omega)
   cases hr : par f (.lv 9) d (p :: l) with
   | no a e => rw [hr] at q; exact q
   | ok n l1 =>
    rw [hr] at q
    have hm := q.2.1
    simp only [most, List.length_cons] at hm
    have q2 := ih (.cs n) d l1 trivial (hl.suf q.2.2.1 q.1) q.2.2.2 (by simp only [need]; omega)
    dsimp only
    cases hr2 : par f (.cs n) d l1 with
    | no a e => rw [hr2] at q2; exact q2
    | ok m l3 =>
     rw [hr2] at q2
     have := q2.2.1
     simp only [most] at this
     exact ⟨q2.1, by simp only [most, List.length_cons]; omega, suf_trans q.2.2.1 q2.2.2.1, q2.2.2.2⟩
  rw [if_neg h8]
  by_cases h9 : lev = 9
  ·rw [if_pos h9]
   have leaf : ∀ (k : Int), p.1 ≠ 0 → GoodR S E (.lv lev) (p :: l) (.ok (.mk k p.2.1 [] p.2.2) l) := fun k hk =>
    ⟨hl.1.tail hk, by simp [most], suf_cons _ _, PlN.leaf (hl.s hk)⟩
   by_cases c1 : p.1 = 1
   ·rw [if_pos c1]; exact leaf 1 (by omega)
   rw [if_neg c1]
   by_cases c2 : p.1 = 2
   ·rw [if_pos c2]; exact leaf 2 (by omega)
   rw [if_neg c2]
   by_cases c3 : p.1 = 3
   ·rw [if_pos c3]; exact leaf 3 (by omega)
   rw [if_neg c3]
   by_cases c4 : isT p [(4, trueB), (4, falseB)] = true
   ·rw [if_pos c4]; exact leaf 4 (isT_kind c4 (by simp))
   rw [if_neg c4]
   by_cases c5 : isT p [(5, b1 40)] = true
   ·rw [if_pos c5]
    have hk := isT_kind c5 (by simp)
    by_cases hd : d = 20
    ·rw [if_pos hd]; exact ⟨.inr rfl, hl.e⟩
    rw [if_neg hd]
    have q := ih (.lv 0) (d + 1) l (by simp [okTg]) (hl.tail hk) trivial (by simp only [need]; omega)
    cases hr : par f (.lv 0) (d + 1) l with
    | no a e => rw [hr] at q; exact q
    | ok n l1 =>
     rw [hr] at q
     have hl1 := (hl.tail hk).suf q.2.2.1 q.1
     have hm := q.2.1
     simp only [most] at hm
     obtain ⟨x, l2, rfl⟩ := q.1.cons
     dsimp only
     by_cases hi : isT x [(5, b1 41)] = true
     ·rw [if_pos hi]
      have hk2 := isT_kind hi (by simp)
      simp only [List.length_cons] at hm
      exact ⟨hl1.1.tail hk2, by simp only [most, List.length_cons]; omega, suf_trans (suf_trans (suf_cons _ _) q.2.2.1) (suf_cons _ _), q.2.2.2⟩
     ·rw [if_neg hi]; exact ⟨.inl rfl, hl1.e⟩
   rw [if_neg c5]
   by_cases c6 : free p = true
   ·rw [if_pos c6]
    have hk := free_kind c6
    have hl1 := hl.tail hk
    obtain ⟨q, l1, rfl⟩ := hl1.1.cons
    simp only [List.length_cons] at hf
    dsimp only
    by_cases c7 : q.1 = 3 ∧ typB p.2.1 = true
    ·rw [if_pos c7]
     have hq : q.1 ≠ 0 := by omega
     exact ⟨hl1.1.tail hq, by simp only [most, List.length_cons]; omega, suf_trans (suf_cons _ _) (suf_cons _ _), PlN.one (hl.s hk) (PlN.leaf (hl1.s hq))⟩
    rw [if_neg c7]
    by_cases c8 : isT q [(5, b1 40)] = true
    ·rw [if_pos c8]
     have hq := isT_kind c8 (by simp)
     by_cases hd : d = 20
     ·rw [if_pos hd]; exact ⟨.inr rfl, hl.e⟩
     rw [if_neg hd]
     have hl2 := hl1.tail hq
     obtain ⟨r, l2, rfl⟩ := hl2.1.cons
     simp only [List.length_cons] at hf
     dsimp only
     by_cases c9 : isT r [(5, b1 41)] = true
     ·rw [if_pos c9]
      have hr := isT_kind c9 (by simp)
      exact ⟨hl2.1.tail hr, by simp only [most, List.length_cons]; omega, suf_trans (suf_trans (suf_cons _ _) (suf_cons _ _)) (suf_cons _ _), PlN.leaf (hl.s hk)⟩
     rw [if_neg c9]
     have q2 := ih (.ks []) (d + 1) (r :: l2) trivial hl2 (fun n hn => by cases hn) (by simp only [need, List.length_cons]; omega)
     cases hr2 : par f (.ks []) (d + 1) (r :: l2) with
     | no a e => rw [hr2] at q2; exact q2
     | ok n l3 =>
      rw [hr2] at q2
      have := q2.2.1
      simp only [most, List.length_cons] at this
      exact ⟨q2.1, by simp only [most, List.length_cons]; omega, suf_trans (suf_trans (suf_cons _ _) (suf_cons _ _)) q2.2.2.1, PlN.kids (hl.s hk) q2.2.2.2⟩
    ·rw [if_neg c8]; exact ⟨.inl rfl, hl1.e⟩
   ·rw [if_neg c6]; exact ⟨.inl rfl, hl.e⟩
  rw [if_neg h9]
  have q := ih (.lv (lev + 1)) d (p :: l) (by simp [okTg]; omega) hl trivial (by simp only [need, List.length_cons]; omega)
  cases hr : par f (.lv (lev + 1)) d (p :: l) with
  | no a e => rw [hr] at q; exact q
  | ok n l1 =>
   rw [hr] at q
   have hm := q.2.1
   simp only [most, List.length_cons] at hm
   have q2 := ih (.lp lev n) d l1 (by simp only [okTg]; omega) (hl.suf q.2.2.1 q.1) q.2.2.2 (by simp only [need]; omega)
   dsimp only
   cases hr2 : par f (.lp lev n) d l1 with
   | no a e => rw [hr2] at q2; exact q2
   | ok m l3 =>
    rw [hr2] at q2
    have := q2.2.1
    simp only [most] at this
    exact ⟨q2.1, by simp only [most, List.length_cons]; omega, suf_trans q.2.2.1 q2.2.2.1, q2.2.2.2⟩
 | f + 1, .lp lev n, d, q :: l, hg, hl, hp, hf => by
  have ih := par_good S E f
  simp only [need, List.length_cons] at hf
  simp only [okTg] at hg
  rw [par_succ]; unfold pst; dsimp only
  by_cases hi : isT q (sgs lev) = true
  ·rw [if_pos hi]
   have hk := isT_kind hi (sgs_kind lev)
   have q1 := ih (.lv (lev + 1)) d l (by simp only [okTg]; omega) (hl.tail hk) trivial (by simp only [need]; omega)
   cases hr : par f (.lv (lev + 1)) d l with
   | no a e => rw [hr] at q1; exact q1
   | ok m l1 =>
    rw [hr] at q1
    have hm := q1.2.1
    simp only [most] at hm
    have q2 := ih (.lp lev (.mk 8 q.2.1 [n, m] q.2.2)) d l1 hg ((hl.tail hk).suf q1.2.2.1 q1.1) (PlN.two (hl.s hk) hp q1.2.2.2) (by simp only [need]; omega)
    dsimp only
    cases hr2 : par f (.lp lev (.mk 8 q.2.1 [n, m] q.2.2)) d l1 with
    | no a e => rw [hr2] at q2; exact q2
    | ok x l3 =>
     rw [hr2] at q2
     have := q2.2.1
     simp only [most] at this
     exact ⟨q2.1, by simp only [most, List.length_cons]; omega, suf_trans (suf_trans (suf_cons _ _) q1.2.2.1) q2.2.2.1, q2.2.2.2⟩
  ·rw [if_neg hi]; exact ⟨hl.1, Nat.le_refl _, suf_self _, hp⟩
 | f + 1, .zs n, d, q :: l, hg, hl, hp, hf => by
  have ih := par_good S E f
  simp only [need, List.length_cons] at hf
  rw [par_succ]; unfold pst; dsimp only
  by_cases hi : isT q [(4, atB)] = true
  ·rw [if_pos hi]
   have hk := isT_kind hi (by simp)
   have hl1 := hl.tail hk
   obtain ⟨t, l1, rfl⟩ := hl1.1.cons
   dsimp only
   by_cases h1 : isT t [(4, timeB)] = true
   ·rw [if_pos h1]
    have hk1 := isT_kind h1 (by simp)
    have hl2 := hl1.tail hk1
    obtain ⟨z, l2, rfl⟩ := hl2.1.cons
    dsimp only
    by_cases h2 : isT z [(4, zoneB)] = true
    ·rw [if_pos h2]
     have hk2 := isT_kind h2 (by simp)
     simp only [List.length_cons] at hf
     have q1 := ih (.lv 8) d l2 (by simp [okTg]) (hl2.tail hk2) trivial (by simp only [need]; omega)
     cases hr : par f (.lv 8) d l2 with
     | no a e => rw [hr] at q1; exact q1
     | ok m l3 =>
      rw [hr] at q1
      have hm := q1.2.1
      simp only [most] at hm
      have q2 := ih (.zs (.mk 8 atzB [n, m] q.2.2)) d l3 trivial ((hl2.tail hk2).suf q1.2.2.1 q1.1) (PlN.two (hl.s hk) hp q1.2.2.2) (by simp only [need]; omega)
      dsimp only
      cases hr2 : par f (.zs (.mk 8 atzB [n, m] q.2.2)) d l3 with
      | no a e => rw [hr2] at q2; exact q2
      | ok x l4 =>
       rw [hr2] at q2
       have := q2.2.1
       simp only [most] at this
       exact ⟨q2.1, by simp only [most, List.length_cons]; omega, suf_trans (suf_trans (suf_trans (suf_trans (suf_cons _ _) (suf_cons _ _)) (suf_cons _ _)) q1.2.2.1) q2.2.2.1, q2.2.2.2⟩
    ·rw [if_neg h2]; exact ⟨.inl rfl, hl2.e⟩
   ·rw [if_neg h1]; exact ⟨.inl rfl, hl1.e⟩
  ·rw [if_neg hi]; exact ⟨hl.1, Nat.le_refl _, suf_self _, hp⟩
 | f + 1, .cs n, d, q :: l, hg, hl, hp, hf => by
  have ih := par_good S E f
  simp only [need, List.length_cons] at hf
  rw [par_succ]; unfold pst; dsimp only
  by_cases hi : isT q [(5, b2 58 58)] = true
  ·rw [if_pos hi]
   have hk := isT_kind hi (by simp)
   have hl1 := hl.tail hk
   obtain ⟨t, l1, rfl⟩ := hl1.1.cons
   dsimp only
   by_cases h1 : free t = true
   ·rw [if_pos h1]
    have hk1 := free_kind h1
    simp only [List.length_cons] at hf
    have q2 := ih (.cs (.mk 10 t.2.1 [n] q.2.2)) d l1 trivial (hl1.tail hk1) (PlN.one (hl.s hk) hp) (by simp only [need]; omega)
    cases hr2 : par f (.cs (.mk 10 t.2.1 [n] q.2.2)) d l1 with
    | no a e => rw [hr2] at q2; exact q2
    | ok x l4 =>
     rw [hr2] at q2
     have := q2.2.1
     simp only [most] at this
     exact ⟨q2.1, by simp only [most, List.length_cons]; omega, suf_trans (suf_trans (suf_cons _ _) (suf_cons _ _)) q2.2.2.1, q2.2.2.2⟩
   ·rw [if_neg h1]; exact ⟨.inl rfl, hl1.e⟩
  ·rw [if_neg hi]; exact ⟨hl.1, Nat.le_refl _, suf_self _, hp⟩
 | f + 1, .ks acc, d, p :: l, hg, hl, hp, hf => by
  have ih := par_good S E f
  simp only [need, List.length_cons] at hf
  rw [par_succ]; unfold pst; dsimp only
  have q := ih (.lv 0) d (p :: l) (by simp [okTg]) hl trivial (by simp only [need, List.length_cons]; omega)
  cases hr : par f (.lv 0) d (p :: l) with
  | no a e => rw [hr] at q; exact q
  | ok n l1 =>
   rw [hr] at q
   have hl1 := hl.suf q.2.2.1 q.1
   have hm := q.2.1
   simp only [most, List.length_cons] at hm
   obtain ⟨x, l2, rfl⟩ := q.1.cons
   simp only [List.length_cons] at hm
   dsimp only
   have hall : ∀ m ∈ acc ++ [n], PlN S m := fun m hm => by
    rcases List.mem_append.1 hm with h | h
    ·exact hp m h
    ·simp at h; subst h; exact q.2.2.2
   by_cases hi : isT x [(5, b1 44)] = true
   ·rw [if_pos hi]
    have hk := isT_kind hi (by simp)
    have q2 := ih (.ks (acc ++ [n])) d l2 trivial (hl1.tail hk) hall (by simp only [need]; omega)
    cases hr2 : par f (.ks (acc ++ [n])) d l2 with
    | no a e => rw [hr2] at q2; exact q2
    | ok y l4 =>
     rw [hr2] at q2
     have := q2.2.1
     simp only [most] at this
     exact ⟨q2.1, by simp only [most, List.length_cons]; omega, suf_trans (suf_trans q.2.2.1 (suf_cons _ _)) q2.2.2.1, q2.2.2.2⟩
   ·rw [if_neg hi]
    by_cases hj : isT x [(5, b1 41)] = true
    ·rw [if_pos hj]
     have hk := isT_kind hj (by simp)
     exact ⟨hl1.1.tail hk, by simp only [most, List.length_cons]; omega, suf_trans q.2.2.1 (suf_cons _ _), hall⟩
    ·rw [if_neg hj]; exact ⟨.inl rfl, hl1.e⟩
def bt (s : ByteArray) (i : Nat) : Nat := (s.get! i).toNat
theorem dec_shape (s : ByteArray) (pos : Nat) (h : pos < s.size) :
  (bt s pos < 128 ∧ Utf8.decode s pos = (bt s pos, 1)) ∨
  (128 ≤ bt s pos ∧ Utf8.decode s pos = (65533, 1)) ∨
  (128 ≤ bt s pos ∧ 2 ≤ (Utf8.decode s pos).2 ∧ (Utf8.decode s pos).2 ≤ 4 ∧ pos + (Utf8.decode s pos).2 ≤ s.size ∧ 128 ≤ (Utf8.decode s pos).1 ∧
   (∀ j, 1 ≤ j → j < (Utf8.decode s pos).2 → 128 ≤ bt s (pos + j)) ∧ Lib.runeLen ((Utf8.decode s pos).1 : Int) = ((Utf8.decode s pos).2 : Int)) := by
 have h0 : bt s pos < 256 := UInt8.toNat_lt _
 have h1 : bt s (pos + 1) < 256 := UInt8.toNat_lt _
 have h2 : bt s (pos + 2) < 256 := UInt8.toNat_lt _
 have h3 : bt s (pos + 3) < 256 := UInt8.toNat_lt _
 have e := Lib.decode_at s pos
 change Utf8.decode s pos = Lib.decodeN (s.size - pos) (bt s pos) (bt s (pos + 1)) (bt s (pos + 2)) (bt s (pos + 3)) at e
 rcases Lib.decodeN_shape (s.size - pos) (bt s pos) (bt s (pos + 1)) (bt s (pos + 2)) (bt s (pos + 3)) with ⟨c, q⟩ | ⟨c1, c2, c3, cv, q⟩ | ⟨c1, c2, c3, c4, cv, cs, q⟩ | ⟨c1, c2, c3, c4, c5, cv, cw, q⟩ | q
 ·exact .inl ⟨c, e.trans q⟩
 ·rw [e, q]
  refine .inr (.inr ⟨by omega, by simp, by simp, by simp; omega, by simp; omega, ?_, ?_⟩)
  ·intro j a b
   obtain rfl : j = 1 := by simp at b; omega
   omega
  ·unfold Lib.runeLen; dsimp only; repeat' split
   all_goals omega
 ·rw [e, q]
  refine .inr (.inr ⟨by omega, by simp, by simp, by simp; omega, by simp; omega, ?_, ?_⟩)
  ·intro j a b
   have : j = 1 ∨ j = 2 := by simp at b; omega
   rcases this with rfl | rfl <;> omega
  ·unfold Lib.runeLen; dsimp only; repeat' split
   all_goals omega
 ·rw [e, q]
  refine .inr (.inr ⟨by omega, by simp, by simp, by simp; omega, by simp; omega, ?_, ?_⟩)
  ·intro j a b
   have : j = 1 ∨ j = 2 ∨ j = 3 := by simp at b; omega
   rcases this with rfl | rfl | rfl <;> omega
  ·unfold Lib.runeLen; dsimp only; repeat' split
   all_goals omega
 ·by_cases c : bt s pos < 128
  ·refine .inl ⟨c, ?_⟩
   rw [e]; unfold Lib.decodeN; rw [if_pos c]
  ·exact .inr (.inl ⟨by omega, e.trans q⟩)
def kindW (R : Int) (wd : Nat) : Int :=
 if R = 32 ∨ R = 9 ∨ R = 10 ∨ R = 13 then 0
 else if R < 32 ∨ R = 127 then -1
 else if 48 ≤ R ∧ R ≤ 57 then 1
 else if R = 65533 then (if wd = 1 then -1 else 2)
 else if 127 < R ∨ R = 95 ∨ (97 ≤ R ∧ R ≤ 122) ∨ (65 ≤ R ∧ R ≤ 90) then 2
 else 3
theorem kindW_range (R : Int) (wd : Nat) : kindW R wd = -1 ∨ kindW R wd = 0 ∨ kindW R wd = 1 ∨ kindW R wd = 2 ∨ kindW R wd = 3 := by
 unfold kindW; repeat' split
 all_goals simp
def kindP (s : ByteArray) (pos : Nat) : Int := kindW ((Utf8.decode s pos).1 : Int) (Utf8.decode s pos).2
theorem wd_pos (s : ByteArray) (pos : Nat) : 1 ≤ (Utf8.decode s pos).2 := Lib.width_pos s pos
theorem wd_le (s : ByteArray) (pos : Nat) (h : pos < s.size) : pos + (Utf8.decode s pos).2 ≤ s.size := by
 rcases dec_shape s pos h with ⟨_, e⟩ | ⟨_, e⟩ | ⟨_, _, _, e, _⟩
 ·rw [e]; simp only; omega
 ·rw [e]; simp only; omega
 ·exact e
theorem wd_len (s : ByteArray) (pos : Nat) (h : pos < s.size) (hk : kindP s pos ≠ -1) : Lib.runeLen ((Utf8.decode s pos).1 : Int) = ((Utf8.decode s pos).2 : Int) := by
 rcases dec_shape s pos h with ⟨c, e⟩ | ⟨_, e⟩ | ⟨_, _, _, _, _, _, e⟩
 ·rw [e]; unfold Lib.runeLen; simp only; repeat' split
  all_goals omega
 ·exfalso; apply hk; unfold kindP; rw [e]; rfl
 ·exact e
abbrev Prt := Int × Nat × Nat
def splitF (s : ByteArray) : Nat → Nat → List Prt → Int → Sum Nat (List Prt)
 | 0, _, l, _ => .inr l
 | f + 1, pos, l, a =>
  if pos < s.size then
   if kindP s pos = -1 then .inl pos
   else if kindP s pos = 0 then splitF s f (pos + (Utf8.decode s pos).2) l 0
   else if kindP s pos = 3 ∨ kindP s pos ≠ a then splitF s f (pos + (Utf8.decode s pos).2) (l ++ [(kindP s pos, pos, pos + (Utf8.decode s pos).2)]) (kindP s pos)
   else splitF s f (pos + (Utf8.decode s pos).2) (l.dropLast ++ [((l.getLast?.getD (0, 0, 0)).1, (l.getLast?.getD (0, 0, 0)).2.1, pos + (Utf8.decode s pos).2)]) (kindP s pos)
  else .inr l
theorem splitF_end (s : ByteArray) (f pos : Nat) (l : List Prt) (a : Int) (h : ¬ pos < s.size) : splitF s f pos l a = .inr l := by
 cases f with
 | zero => rfl
 | succ f => simp [splitF, h]
theorem splitF_wrong {s : ByteArray} {f pos : Nat} {l : List Prt} {a : Int} (hp : pos < s.size) (h : kindP s pos = -1) : splitF s (f + 1) pos l a = .inl pos := by
 rw [splitF, if_pos hp, if_pos h]
theorem splitF_blank {s : ByteArray} {f pos : Nat} {l : List Prt} {a : Int} (hp : pos < s.size) (h : kindP s pos = 0) : splitF s (f + 1) pos l a = splitF s f (pos + (Utf8.decode s pos).2) l 0 := by
 rw [splitF, if_pos hp, if_neg (by omega), if_pos h]
theorem splitF_new {s : ByteArray} {f pos : Nat} {l : List Prt} {a : Int} (hp : pos < s.size) (h1 : kindP s pos ≠ -1) (h0 : kindP s pos ≠ 0) (h : kindP s pos = 3 ∨ kindP s pos ≠ a) :
  splitF s (f + 1) pos l a = splitF s f (pos + (Utf8.decode s pos).2) (l ++ [(kindP s pos, pos, pos + (Utf8.decode s pos).2)]) (kindP s pos) := by
 rw [splitF, if_pos hp, if_neg h1, if_neg h0, if_pos h]
theorem splitF_more {s : ByteArray} {f pos : Nat} {l : List Prt} {a k : Int} {x y : Nat} (hp : pos < s.size) (h1 : kindP s pos ≠ -1) (h0 : kindP s pos ≠ 0) (h3 : kindP s pos ≠ 3) (h : kindP s pos = a) :
  splitF s (f + 1) pos (l ++ [(k, x, y)]) a = splitF s f (pos + (Utf8.decode s pos).2) (l ++ [(k, x, pos + (Utf8.decode s pos).2)]) a := by
 rw [splitF, if_pos hp, if_neg h1, if_neg h0, if_neg (fun q => by rcases q with q | q; exact h3 q; exact q h)]
 simp [h]
def splitB (s : ByteArray) : Sum Nat (List Prt) := splitF s s.size 0 [] 0
end Go.Proofs.YtaoocecipacnhaaDoor
