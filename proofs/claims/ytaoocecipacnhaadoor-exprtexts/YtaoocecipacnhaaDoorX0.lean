import Derived.Test.YtaoocecipacnhaaDoorXz
import Derived.Test.YtaoocecipacnhaaDoorRows
import Derived.WalkKit
import Derived.WalkSpells
import Derived.WalkLawsBesides
import Derived.Deep.MidRow
import Derived.Deep.RegionHeld3
import Derived.Laws.RangeAny
import Derived.Lib.MapLaws
import Derived.Test.YtaoocecipacnhaaDoorProg
import Derived.ProofKit
import Derived.Laws.IdiomStrings
import Derived.Lib.OthersKept
import Derived.Deep.LoopGhost
import Derived.Deep.RegionWith
import Derived.Deep.DeepMust
import Derived.Below
open Go.Value renaming int → vi, string → vS, slice → vL
open Go.IntKind renaming i64 → ki
open List renaming setIfInBounds_toArray → zb, set_cons_zero → zc, set_cons_succ → zd, length_cons → zl
open Go.Act renaming put → za
open Go.Ending renaming returned → zr
set_option maxRecDepth 100000
set_option maxHeartbeats 16000000
set_option linter.all false
namespace Go.Proofs.YtaoocecipacnhaaDoor
open Go.RowKit
def Bx (W : World) (b : Nat) (l : List Value) : Prop := b < W.heap.size ∧ ∀ i v, l[i]? = some v → W.cell? ⟨b, i, none⟩ = some v ∧ W.frozen? ⟨b, i, none⟩ = false
theorem Bx.below {W W' : World} {b : Nat} {l : List Value} (h : Bx W b l) (hb : Below W.heap.size W W') : Bx W' b l :=
 ⟨Nat.lt_of_lt_of_le h.1 hb.size, fun i v e => ⟨(hb.cell (p := ⟨b, i, none⟩) h.1).trans (h.2 i v e).1, (hb.frozen (p := ⟨b, i, none⟩) h.1).trans (h.2 i v e).2⟩⟩
theorem Bx.alloc {W : World} {b : Nat} {l : List Value} (h : Bx W b l) (o : Obj) : Bx (W.alloc o) b l := h.below ((Below.refl _ W).alloc (Nat.le_refl _) o)
theorem Bx.new (w : World) (l : List Value) (t : TypeId) : Bx (w.alloc (.cells l.toArray t)) w.heap.size l :=
 ⟨by simp, fun i v e => ⟨by rw [World.cell?_alloc_at _ _ _ _ rfl]; simpa using e, by rw [World.frozen?_alloc_at _ _ _ _ rfl]⟩⟩
theorem Bx.c {W : World} {b : Nat} {l : List Value} (h : Bx W b l) (i : Nat) {v : Value} (e : l[i]? = some v) : W.cell? ⟨b, i, none⟩ = some v := (h.2 i v e).1
theorem Bx.f {W : World} {b : Nat} {l : List Value} (h : Bx W b l) (i : Nat) {v : Value} (e : l[i]? = some v) : W.frozen? ⟨b, i, none⟩ = false := (h.2 i v e).2
theorem below_setCells {w : World} {b : Nat} (hb : w.heap.size ≤ b) : ∀ (vs : List Value) (W : World) (i : Nat), Below w.heap.size w W → Below w.heap.size w (W.setCells b i vs)
 | [], _, _, h => h
 | v :: vs, W, i, h => below_setCells hb vs _ _ (h.setCell (p := ⟨b, i, none⟩) hb v)
theorem setCells_size (b : Nat) : ∀ (vs : List Value) (W : World) (i : Nat), (W.setCells b i vs).heap.size = W.heap.size
 | [], _, _ => rfl
 | v :: vs, W, i => by rw [World.setCells, setCells_size b vs]; simp
theorem setCells_off (b : Nat) (vs : List Value) (W : World) (i : Nat) (p : Addr) (h : p.block ≠ b) : (W.setCells b i vs).cell? p = W.cell? p :=
 World.cell?_setCells_out b vs i W p (fun e _ => absurd e h)
theorem Bx.there {W : World} {b : Nat} {l : List Value} (h : Bx W b l) : W.there b 0 l.length := fun j hj => by
 have := h.2 j l[j] (List.getElem?_eq_getElem hj)
 rw [Nat.zero_add]
 exact ⟨by rw [this.1]; rfl, this.2⟩
theorem Bx.setAll {W : World} {b : Nat} {l : List Value} (h : Bx W b l) (vs : List Value) (hl : l.length = vs.length) : Bx (W.setCells b 0 vs) b vs :=
 ⟨by rw [setCells_size]; exact h.1, fun i v e => by
  have hi := (List.getElem?_eq_some_iff.1 e).1
  refine ⟨?_, ?_⟩
  ·have := World.rangeAt_setCells_same W b 0 vs (hl ▸ h.there) i v e
   rwa [Nat.zero_add] at this
  ·rw [World.frozen?_setCells]; exact (h.2 i l[i] (List.getElem?_eq_getElem (by omega))).2⟩
theorem Bx.setOther {W : World} {b' b : Nat} {l : List Value} (h : Bx W b' l) (hb : b' ≠ b) (vs : List Value) (j : Nat := 0) : Bx (W.setCells b j vs) b' l :=
 ⟨by rw [setCells_size]; exact h.1, fun i v e => ⟨by rw [setCells_off b vs _ _ _ hb]; exact (h.2 i v e).1, by rw [World.frozen?_setCells]; exact (h.2 i v e).2⟩⟩
def BS (w : World) (l : List (Nat × List Value)) (W : World) : Prop := Below w.heap.size w W ∧ ∀ x ∈ l, w.heap.size ≤ x.1 ∧ Bx W x.1 x.2
theorem BS.start (w : World) : BS w [] w := ⟨Below.refl _ _, fun x h => by cases h⟩
theorem BS.below {w W V : World} {l : List (Nat × List Value)} (h : BS w l W) (hb : Below W.heap.size W V) : BS w l V :=
 ⟨h.1.trans (hb.mono h.1.size), fun x hx => ⟨(h.2 x hx).1, (h.2 x hx).2.below hb⟩⟩
theorem BS.drew {w W : World} {l : List (Nat × List Value)} (h : BS w l W) : BS w l W.drew := ⟨h.1.drew, h.2⟩
theorem BS.alloc {w W : World} {l : List (Nat × List Value)} (h : BS w l W) (o : Obj) : BS w l (W.alloc o) := h.below ((Below.refl _ W).alloc (Nat.le_refl _) o)
theorem BS.new {w W : World} {l : List (Nat × List Value)} (h : BS w l W) (cs : List Value) (t : TypeId) {b : Nat} (hb : W.heap.size = b) : BS w ((b, cs) :: l) (W.alloc (.cells cs.toArray t)) :=
 ⟨(h.alloc _).1, fun x hx => by
  rcases List.mem_cons.1 hx with rfl | hx
  ·exact ⟨by rw [← hb]; exact h.1.size, by rw [← hb]; exact Bx.new W cs t⟩
  ·exact (h.alloc _).2 x hx⟩
theorem BS.first {w W : World} {l : List (Nat × List Value)} {b : Nat} {cs : List Value} (h : BS w ((b, cs) :: l) W) : Bx W b cs := (h.2 (b, cs) List.mem_cons_self).2
theorem BS.at {w W : World} {l : List (Nat × List Value)} (h : BS w l W) (b : Nat) (cs : List Value) (hm : (b, cs) ∈ l) : Bx W b cs := (h.2 (b, cs) hm).2
theorem gen_to {P : Program} {c : Code} {Q : Exit → Act → World → Prop} {a : Act} {w1 : World} (T : World → Prop) (h : T w1) (k : ∀ w2, T w2 → Code.wp P c Q a w2) : Code.wp P c Q a w1 := k _ h
theorem Bx.cf4 {W : World} {b : Nat} {v0 v1 v2 v3 : Value} (h : Bx W b [v0, v1, v2, v3]) : W.cell? ⟨b, 0, none⟩ = some v0 ∧ W.cell? ⟨b, 1, none⟩ = some v1 ∧ W.cell? ⟨b, 2, none⟩ = some v2 ∧ W.cell? ⟨b, 3, none⟩ = some v3 ∧ W.frozen? ⟨b, 0, none⟩ = false ∧ W.frozen? ⟨b, 1, none⟩ = false ∧ W.frozen? ⟨b, 2, none⟩ = false ∧ W.frozen? ⟨b, 3, none⟩ = false := ⟨h.c 0 rfl, h.c 1 rfl, h.c 2 rfl, h.c 3 rfl, h.f 0 rfl, h.f 1 rfl, h.f 2 rfl, h.f 3 rfl⟩
theorem Bx.d4 {W : World} {b : Nat} {v0 v1 v2 v3 : Value} (h : Bx W b [v0, v1, v2, v3]) : W.cell? ⟨b, 0, none⟩ = some v0 ∧ W.cell? ⟨b, 1, none⟩ = some v1 ∧ W.cell? ⟨b, 2, none⟩ = some v2 ∧ W.cell? ⟨b, 3, none⟩ = some v3 := ⟨h.c 0 rfl, h.c 1 rfl, h.c 2 rfl, h.c 3 rfl⟩
theorem bxi {w W : World} {l : List (Nat × List Value)} {b : Nat} {c : List Value} (h : BS w l W) (i : Nat) (e : l[i]? = some (b, c) := by rfl) : Hid (Bx W b c) := h.at b c (List.mem_of_getElem? e)
theorem bsc {w W : World} {l : List (Nat × List Value)} {b : Nat} {c : List Value} {v : Value} (h : BS w l W) (i k : Nat) (e : l[i]? = some (b, c) := by rfl) (d : c[k]? = some v := by rfl) : W.cell? ⟨b, k, none⟩ = some v := (h.at b c (List.mem_of_getElem? e)).c k d
theorem bsm1 (w : World) (A0 : List Value) (a0 : TypeId) : Hid (BS w [(w.heap.size, A0)] (w.alloc (.cells A0.toArray a0))) := ((BS.start w).new A0 a0 rfl)
theorem bsm2 (w : World) (A0 : List Value) (a0 : TypeId) (A1 : List Value) (a1 : TypeId) : Hid (BS w [(w.heap.size + 1, A1), (w.heap.size, A0)] ((w.alloc (.cells A0.toArray a0)).alloc (.cells A1.toArray a1))) := (((BS.start w).new A0 a0 rfl).new A1 a1 (by simp))
theorem bsm3 (w : World) (A0 : List Value) (a0 : TypeId) (A1 : List Value) (a1 : TypeId) (A2 : List Value) (a2 : TypeId) : Hid (BS w [(w.heap.size + 1 + 1, A2), (w.heap.size + 1, A1), (w.heap.size, A0)] (((w.alloc (.cells A0.toArray a0)).alloc (.cells A1.toArray a1)).alloc (.cells A2.toArray a2))) := ((((BS.start w).new A0 a0 rfl).new A1 a1 (by simp)).new A2 a2 (by simp))
theorem bsm4 (w : World) (A0 : List Value) (a0 : TypeId) (A1 : List Value) (a1 : TypeId) (A2 : List Value) (a2 : TypeId) (A3 : List Value) (a3 : TypeId) : Hid (BS w [(w.heap.size + 1 + 1 + 1, A3), (w.heap.size + 1 + 1, A2), (w.heap.size + 1, A1), (w.heap.size, A0)] ((((w.alloc (.cells A0.toArray a0)).alloc (.cells A1.toArray a1)).alloc (.cells A2.toArray a2)).alloc (.cells A3.toArray a3))) := (((((BS.start w).new A0 a0 rfl).new A1 a1 (by simp)).new A2 a2 (by simp)).new A3 a3 (by simp))
theorem bsm5 (w : World) (A0 : List Value) (a0 : TypeId) (A1 : List Value) (a1 : TypeId) (A2 : List Value) (a2 : TypeId) (A3 : List Value) (a3 : TypeId) (A4 : List Value) (a4 : TypeId) : Hid (BS w [(w.heap.size + 1 + 1 + 1 + 1, A4), (w.heap.size + 1 + 1 + 1, A3), (w.heap.size + 1 + 1, A2), (w.heap.size + 1, A1), (w.heap.size, A0)] (((((w.alloc (.cells A0.toArray a0)).alloc (.cells A1.toArray a1)).alloc (.cells A2.toArray a2)).alloc (.cells A3.toArray a3)).alloc (.cells A4.toArray a4))) := ((((((BS.start w).new A0 a0 rfl).new A1 a1 (by simp)).new A2 a2 (by simp)).new A3 a3 (by simp)).new A4 a4 (by simp))
theorem bsn1 (w : World) (A0 : List Value) (a0 : TypeId) : Hid (BS w [(w.heap.size, A0)] (w.alloc (.cells A0.toArray a0))) := ((BS.start w).new A0 a0 rfl)
theorem bsn2 (w : World) (A0 : List Value) (a0 : TypeId) (A1 : List Value) (a1 : TypeId) : Hid (BS w [(w.heap.size + 1, A1), (w.heap.size, A0)] ((w.alloc (.cells A0.toArray a0)).alloc (.cells A1.toArray a1))) := (((BS.start w).new A0 a0 rfl).new A1 a1 (by simp))
theorem bsn3 (w : World) (A0 : List Value) (a0 : TypeId) (A1 : List Value) (a1 : TypeId) (A2 : List Value) (a2 : TypeId) : Hid (BS w [(w.heap.size + 2, A2), (w.heap.size + 1, A1), (w.heap.size, A0)] (((w.alloc (.cells A0.toArray a0)).alloc (.cells A1.toArray a1)).alloc (.cells A2.toArray a2))) := ((((BS.start w).new A0 a0 rfl).new A1 a1 (by simp)).new A2 a2 (by simp))
theorem bsn4 (w : World) (A0 : List Value) (a0 : TypeId) (A1 : List Value) (a1 : TypeId) (A2 : List Value) (a2 : TypeId) (A3 : List Value) (a3 : TypeId) : Hid (BS w [(w.heap.size + 3, A3), (w.heap.size + 2, A2), (w.heap.size + 1, A1), (w.heap.size, A0)] ((((w.alloc (.cells A0.toArray a0)).alloc (.cells A1.toArray a1)).alloc (.cells A2.toArray a2)).alloc (.cells A3.toArray a3))) := (((((BS.start w).new A0 a0 rfl).new A1 a1 (by simp)).new A2 a2 (by simp)).new A3 a3 (by simp))
theorem bsn5 (w : World) (A0 : List Value) (a0 : TypeId) (A1 : List Value) (a1 : TypeId) (A2 : List Value) (a2 : TypeId) (A3 : List Value) (a3 : TypeId) (A4 : List Value) (a4 : TypeId) : Hid (BS w [(w.heap.size + 4, A4), (w.heap.size + 3, A3), (w.heap.size + 2, A2), (w.heap.size + 1, A1), (w.heap.size, A0)] (((((w.alloc (.cells A0.toArray a0)).alloc (.cells A1.toArray a1)).alloc (.cells A2.toArray a2)).alloc (.cells A3.toArray a3)).alloc (.cells A4.toArray a4))) := ((((((BS.start w).new A0 a0 rfl).new A1 a1 (by simp)).new A2 a2 (by simp)).new A3 a3 (by simp)).new A4 a4 (by simp))
theorem Bx.rng {W : World} {b : Nat} {l : List Value} (h : Bx W b l) (p cs q : List Value) (e : l = p ++ (cs ++ q)) : W.rangeAt b p.length cs := fun j v hv => by
 refine (h.2 (p.length + j) v ?_).1
 have hj : j < cs.length := (List.getElem?_eq_some_iff.1 hv).1
 rw [e, List.getElem?_append_right (by omega), show p.length + j - p.length = j by omega, List.getElem?_append_left hj]
 exact hv
theorem Bx.c2 {W : World} {b : Nat} {v0 v1 : Value} (h : Bx W b [v0, v1]) : W.cell? ⟨b, 0, none⟩ = some v0 ∧ W.cell? ⟨b, 1, none⟩ = some v1 := ⟨h.c 0 rfl, h.c 1 rfl⟩
theorem Bx.c3 {W : World} {b : Nat} {v0 v1 v2 : Value} (h : Bx W b [v0, v1, v2]) : W.cell? ⟨b, 0, none⟩ = some v0 ∧ W.cell? ⟨b, 1, none⟩ = some v1 ∧ W.cell? ⟨b, 2, none⟩ = some v2 := ⟨h.c 0 rfl, h.c 1 rfl, h.c 2 rfl⟩
theorem Bx.c4 {W : World} {b : Nat} {v0 v1 v2 v3 : Value} (h : Bx W b [v0, v1, v2, v3]) : W.cell? ⟨b, 0, none⟩ = some v0 ∧ W.cell? ⟨b, 1, none⟩ = some v1 ∧ W.cell? ⟨b, 2, none⟩ = some v2 ∧ W.cell? ⟨b, 3, none⟩ = some v3 := ⟨h.c 0 rfl, h.c 1 rfl, h.c 2 rfl, h.c 3 rfl⟩
theorem Bx.c5 {W : World} {b : Nat} {v0 v1 v2 v3 v4 : Value} (h : Bx W b [v0, v1, v2, v3, v4]) : W.cell? ⟨b, 0, none⟩ = some v0 ∧ W.cell? ⟨b, 1, none⟩ = some v1 ∧ W.cell? ⟨b, 2, none⟩ = some v2 ∧ W.cell? ⟨b, 3, none⟩ = some v3 ∧ W.cell? ⟨b, 4, none⟩ = some v4 := ⟨h.c 0 rfl, h.c 1 rfl, h.c 2 rfl, h.c 3 rfl, h.c 4 rfl⟩
theorem Bx.set1 {W : World} {b : Nat} {l : List Value} (h : Bx W b l) (i : Nat) (v : Value) (hi : i < l.length) : Bx (W.setCell ⟨b, i, none⟩ v) b (l.set i v) :=
 ⟨by simpa using h.1, fun j x e => by
  by_cases hj : i = j
  ·subst hj
   rw [List.getElem?_set_self hi] at e
   cases e
   exact ⟨World.cell?_setCell_same _ _ _ (h.2 i l[i] (List.getElem?_eq_getElem hi)).1, by rw [World.frozen?_setCell]; exact (h.2 i l[i] (List.getElem?_eq_getElem hi)).2⟩
  ·rw [List.getElem?_set_ne hj] at e
   exact ⟨(World.cell?_setCell_other _ _ _ _ (fun q => hj (by cases q; rfl))).trans (h.2 j x e).1, by rw [World.frozen?_setCell]; exact (h.2 j x e).2⟩⟩
theorem BS.set1 {w W : World} {l : List (Nat × List Value)} {b : Nat} {cs : List Value} (h : BS w ((b, cs) :: l) W) (i : Nat) (v : Value) (hi : i < cs.length) (hn : ∀ x ∈ l, x.1 ≠ b) : BS w ((b, cs.set i v) :: l) (W.setCell ⟨b, i, none⟩ v) :=
 ⟨h.1.setCell (p := ⟨b, i, none⟩) (h.2 (b, cs) List.mem_cons_self).1 v, fun x hx => by
  rcases List.mem_cons.1 hx with rfl | hx
  ·exact ⟨(h.2 (b, cs) List.mem_cons_self).1, h.first.set1 i v hi⟩
  ·exact ⟨(h.2 x (List.mem_cons_of_mem _ hx)).1, (h.2 x (List.mem_cons_of_mem _ hx)).2.setOther (hn x hx) [v] i⟩⟩
def BW (w W : World) : Prop := Below w.heap.size w W
end Go.Proofs.YtaoocecipacnhaaDoor
namespace Go.Proofs.YtaoocecipacnhaaDoor
abbrev Tk := Int × ByteArray × Int
def qB : ByteArray := ⟨#[39]⟩
def besT (p q : Tk) : Bool := decide (q.2.2 = p.2.2 + (p.2.1.size : Int))
def qt (p : Tk) : Bool := decide (p.2.1 = qB)
def toQ : Nat → List Tk → Nat
 | _, [] => 0
 | i, [p] => if qt p then i + 1 else 0
 | i, p :: q :: l => if qt p then (if besT p q && qt q then toQ (i + 2) l else i + 1) else toQ (i + 1) (q :: l)
def toS : Nat → Tk → List Tk → Nat
 | m, _, [] => m
 | m, p, q :: l => if besT p q && decide (q.1 ≠ 3) then toS (m + 1) q l else m
def isPr (t : ByteArray) : Bool := decide (t = ⟨#[60, 61]⟩) || decide (t = ⟨#[62, 61]⟩) || decide (t = ⟨#[60, 62]⟩) || decide (t = ⟨#[58, 58]⟩)
def prT : Tk → List Tk → Bool
 | p, q :: _ => besT p q && isPr (p.2.1 ++ q.2.1)
 | _, [] => false
def dcT : Tk → List Tk → Bool
 | p, q :: r :: _ => besT p q && decide (q.2.1 = ⟨#[46]⟩) && besT q r && decide (r.1 = 1)
 | _, _ => false
def fstT (p : Tk) (l : List Tk) : Int × Nat :=
 if qt p then (3, toQ 1 l)
 else if p.1 = 2 then (4, toS 1 p l)
 else if p.1 = 3 then (5, if prT p l then 2 else 1)
 else if dcT p l then (2, 3) else (1, 1)
def unq : List UInt8 → List UInt8
 | [] => []
 | [c] => [c]
 | a :: b :: l => if a = 39 ∧ b = 39 then 39 :: unq l else a :: unq (b :: l)
inductive Nd where
 | mk (k : Int) (t : ByteArray) (ks : List Nd) (at_ : Int) : Nd
abbrev Nd.k : Nd → Int | .mk k _ _ _ => k
abbrev Nd.ks : Nd → List Nd | .mk _ _ ks _ => ks
inductive PR where
 | ok (n : Nd) (l : List Tk) : PR
 | no (at_ : Int) (e : Int) : PR
def orB : ByteArray := ⟨#[111, 114]⟩
def andB : ByteArray := ⟨#[97, 110, 100]⟩
def notB : ByteArray := ⟨#[110, 111, 116]⟩
def atB : ByteArray := ⟨#[97, 116]⟩
def timeB : ByteArray := ⟨#[116, 105, 109, 101]⟩
def zoneB : ByteArray := ⟨#[122, 111, 110, 101]⟩
def atzB : ByteArray := ⟨#[97, 116, 32, 116, 105, 109, 101, 32, 122, 111, 110, 101]⟩
def trueB : ByteArray := ⟨#[116, 114, 117, 101]⟩
def falseB : ByteArray := ⟨#[102, 97, 108, 115, 101]⟩
def dateB : ByteArray := ⟨#[100, 97, 116, 101]⟩
def stampB : ByteArray := ⟨#[116, 105, 109, 101, 115, 116, 97, 109, 112]⟩
def tzB : ByteArray := ⟨#[116, 105, 109, 101, 115, 116, 97, 109, 112, 116, 122]⟩
def ivB : ByteArray := ⟨#[105, 110, 116, 101, 114, 118, 97, 108]⟩
def b1 (c : UInt8) : ByteArray := ⟨#[c]⟩
def b2 (c d : UInt8) : ByteArray := ⟨#[c, d]⟩
def isT (p : Tk) (l : List (Int × ByteArray)) : Bool := l.any fun x => decide (p.1 = x.1 ∧ p.2.1 = x.2)
def sgs : Nat → List (Int × ByteArray)
 | 0 => [(4, orB)]
 | 1 => [(4, andB)]
 | 3 => [(5, b1 61), (5, b2 60 62), (5, b1 60), (5, b2 60 61), (5, b1 62), (5, b2 62 61)]
 | 4 => [(5, b1 43), (5, b1 45)]
 | _ => [(5, b1 42), (5, b1 47), (5, b1 37)]
def rsvd (t : ByteArray) : Bool := decide (t = trueB) || decide (t = falseB) || decide (t = notB) || decide (t = andB) || decide (t = orB) || decide (t = atB) || decide (t = timeB) || decide (t = zoneB)
def free (p : Tk) : Bool := !rsvd p.2.1 && decide (p.1 = 4)
def typB (t : ByteArray) : Bool := decide (t = dateB) || decide (t = stampB) || decide (t = tzB) || decide (t = ivB)
inductive Tg where
 | lv (l : Nat) : Tg
 | lp (l : Nat) (n : Nd) : Tg
 | zs (n : Nd) : Tg
 | cs (n : Nd) : Tg
 | ks (acc : List Nd) : Tg
def cmpK (r : Tg → Nat → List Tk → PR) (d : Nat) (n : Nd) : List Tk → PR
 | [] => .no 0 0
 | q :: l1 =>
  if isT q (sgs 3) then
   match r (.lv 4) d l1 with
   | .ok m l2 => .ok (.mk 8 q.2.1 [n, m] q.2.2) l2
   | .no a e => .no a e
  else .ok n (q :: l1)
def pst (r : Tg → Nat → List Tk → PR) : Tg → Nat → List Tk → PR
 | _, _, [] => .no 0 0
 | .lv lev, d, p :: l =>
  if lev = 2 then
   if isT p [(4, notB)] then
    if d = 20 then .no p.2.2 31
    else match r (.lv 2) (d + 1) l with
     | .ok n l1 => .ok (.mk 7 ByteArray.empty [n] p.2.2) l1
     | .no a e => .no a e
   else r (.lv 3) d (p :: l)
  else if lev = 6 then
   if isT p [(5, b1 45)] then
    if d = 20 then .no p.2.2 31
    else match r (.lv 6) (d + 1) l with
     | .ok n l1 => .ok (.mk 6 ByteArray.empty [n] p.2.2) l1
     | .no a e => .no a e
   else r (.lv 7) d (p :: l)
  else if lev = 3 then
   match r (.lv 4) d (p :: l) with
   | .ok n l1 => cmpK r d n l1
   | .no a e => .no a e
  else if lev = 7 then
   match r (.lv 8) d (p :: l) with
   | .ok n l1 => r (.zs n) d l1
   | .no a e => .no a e
  else if lev = 8 then
   match r (.lv 9) d (p :: l) with
   | .ok n l1 => r (.cs n) d l1
   | .no a e => .no a e
  else if lev = 9 then
   if p.1 = 1 then .ok (.mk 1 p.2.1 [] p.2.2) l
   else if p.1 = 2 then .ok (.mk 2 p.2.1 [] p.2.2) l
   else if p.1 = 3 then .ok (.mk 3 p.2.1 [] p.2.2) l
   else if isT p [(4, trueB), (4, falseB)] then .ok (.mk 4 p.2.1 [] p.2.2) l
   else if isT p [(5, b1 40)] then
    if d = 20 then .no p.2.2 31
    else match r (.lv 0) (d + 1) l with
     | .no a e => .no a e
     | .ok n [] => .no 0 0
     | .ok n (q :: l1) => if isT q [(5, b1 41)] then .ok n l1 else .no q.2.2 30
   else if free p then
    match l with
    | [] => .no 0 0
    | q :: l1 =>
     if q.1 = 3 ∧ typB p.2.1 = true then .ok (.mk 5 p.2.1 [.mk 3 q.2.1 [] q.2.2] p.2.2) l1
     else if isT q [(5, b1 40)] then
      if d = 20 then .no p.2.2 31
      else match l1 with
       | [] => .no 0 0
       | u :: l2 =>
        if isT u [(5, b1 41)] then .ok (.mk 9 p.2.1 [] p.2.2) l2
        else match r (.ks []) (d + 1) (u :: l2) with
         | .no a e => .no a e
         | .ok n l3 => .ok (.mk 9 p.2.1 n.ks p.2.2) l3
     else .no q.2.2 30
   else .no p.2.2 30
  else
   match r (.lv (lev + 1)) d (p :: l) with
   | .ok n l1 => r (.lp lev n) d l1
   | .no a e => .no a e
 | .lp lev n, d, q :: l =>
  if isT q (sgs lev) then
   match r (.lv (lev + 1)) d l with
   | .ok m l1 => r (.lp lev (.mk 8 q.2.1 [n, m] q.2.2)) d l1
   | .no a e => .no a e
  else .ok n (q :: l)
 | .zs n, d, q :: l =>
  if isT q [(4, atB)] then
   match l with
   | [] => .no 0 0
   | t :: l1 =>
    if isT t [(4, timeB)] then
     match l1 with
     | [] => .no 0 0
     | z :: l2 =>
      if isT z [(4, zoneB)] then
       match r (.lv 8) d l2 with
       | .ok m l3 => r (.zs (.mk 8 atzB [n, m] q.2.2)) d l3
       | .no a e => .no a e
      else .no z.2.2 30
    else .no t.2.2 30
  else .ok n (q :: l)
 | .cs n, d, q :: l =>
  if isT q [(5, b2 58 58)] then
   match l with
   | [] => .no 0 0
   | t :: l1 => if free t then r (.cs (.mk 10 t.2.1 [n] q.2.2)) d l1 else .no t.2.2 30
  else .ok n (q :: l)
 | .ks acc, d, p :: l =>
  match r (.lv 0) d (p :: l) with
  | .no a e => .no a e
  | .ok n [] => .no 0 0
  | .ok n (q :: l1) =>
   if isT q [(5, b1 44)] then r (.ks (acc ++ [n])) d l1
   else if isT q [(5, b1 41)] then .ok (.mk 9 ByteArray.empty (acc ++ [n]) 0) l1
   else .no q.2.2 30
def par : Nat → Tg → Nat → List Tk → PR
 | 0 => fun _ _ _ => .no 0 0
 | f + 1 => pst (par f)
theorem par_succ (f : Nat) (g : Tg) (d : Nat) (l : List Tk) : par (f + 1) g d l = pst (par f) g d l := rfl
def EndL : List Tk → Prop
 | [] => False
 | [p] => p.1 = 0
 | p :: q :: l => p.1 ≠ 0 ∧ EndL (q :: l)
theorem EndL.tail {p : Tk} {l : List Tk} (h : EndL (p :: l)) (hp : p.1 ≠ 0) : EndL l := by
 cases l with
 | nil => exact absurd h hp
 | cons q l => exact h.2
theorem EndL.cons {l : List Tk} (h : EndL l) : ∃ p l', l = p :: l' := by
 cases l with
 | nil => exact h.elim
 | cons p l => exact ⟨p, l, rfl⟩
theorem isT_kind {p : Tk} {l : List (Int × ByteArray)} (h : isT p l = true) (hl : ∀ x ∈ l, x.1 ≠ 0) : p.1 ≠ 0 := by
 obtain ⟨x, hx, hd⟩ := List.any_eq_true.1 h
 have := of_decide_eq_true hd
 rw [this.1]; exact hl x hx
theorem free_kind {p : Tk} (h : free p = true) : p.1 ≠ 0 := by
 unfold free at h
 have := of_decide_eq_true (Bool.and_eq_true_iff.1 h).2
 omega
theorem sgs_kind (lev : Nat) : ∀ x ∈ sgs lev, x.1 ≠ 0 := by
 intro x hx
 unfold sgs at hx
 split at hx <;> simp at hx <;> (first | (rcases hx with rfl | rfl | rfl | rfl | rfl | rfl <;> decide) | (rcases hx with rfl | rfl | rfl <;> decide) | (rcases hx with rfl | rfl <;> decide) | (subst hx; decide))
def need : Tg → List Tk → Nat
 | .lv lev, l => 10 * l.length + 10 - lev
 | .ks _, l => 10 * l.length + 11
 | _, l => 10 * l.length + 1
def most : Tg → List Tk → Nat
 | .lv _, l => l.length - 1
 | .ks _, l => l.length - 1
 | _, l => l.length
def okTg : Tg → Prop
 | .lv lev => lev ≤ 9
 | .lp lev _ => lev ≤ 5
 | _ => True
inductive PlN (S : Int → Prop) : Nd → Prop where
 | mk (k : Int) (t : ByteArray) (ks : List Nd) (a : Int) (ha : S a) (hk : ∀ n ∈ ks, PlN S n) : PlN S (.mk k t ks a)
def PlT (S : Int → Prop) : Tg → Prop
 | .lv _ => True
 | .lp _ n => PlN S n
 | .zs n => PlN S n
 | .cs n => PlN S n
 | .ks l => ∀ n ∈ l, PlN S n
def PlK (S : Int → Prop) : Tg → Nd → Prop
 | .ks _, n => ∀ m ∈ n.ks, PlN S m
 | _, n => PlN S n
def GoodR (S E : Int → Prop) (g : Tg) (l : List Tk) : PR → Prop
 | .ok n l1 => EndL l1 ∧ l1.length ≤ most g l ∧ (∃ pre, l = pre ++ l1) ∧ PlK S g n
 | .no a e => (e = 30 ∨ e = 31) ∧ E a
theorem suf_mem {α : Type} {l l1 : List α} (h : ∃ pre, l = pre ++ l1) {x : α} (hx : x ∈ l1) : x ∈ l := by
 obtain ⟨pre, rfl⟩ := h; exact List.mem_append_right _ hx
theorem suf_trans {α : Type} {l l1 l2 : List α} (h : ∃ pre, l = pre ++ l1) (k : ∃ pre, l1 = pre ++ l2) : ∃ pre, l = pre ++ l2 := by
 obtain ⟨a, rfl⟩ := h; obtain ⟨b, rfl⟩ := k; exact ⟨a ++ b, by simp⟩
theorem suf_cons {α : Type} (x : α) (l : List α) : ∃ pre, x :: l = pre ++ l := ⟨[x], rfl⟩
theorem suf_self {α : Type} (l : List α) : ∃ pre, l = pre ++ l := ⟨[], rfl⟩
def TkOk (S E : Int → Prop) (l : List Tk) : Prop := EndL l ∧ (∀ p ∈ l, p.1 ≠ 0 → S p.2.2) ∧ ∀ p ∈ l, E p.2.2
theorem TkOk.suf {S E : Int → Prop} {l l1 : List Tk} (h : TkOk S E l) (k : ∃ pre, l = pre ++ l1) (he : EndL l1) : TkOk S E l1 :=
 ⟨he, fun p hp => h.2.1 p (suf_mem k hp), fun p hp => h.2.2 p (suf_mem k hp)⟩
theorem TkOk.tail {S E : Int → Prop} {p : Tk} {l : List Tk} (h : TkOk S E (p :: l)) (hp : p.1 ≠ 0) : TkOk S E l := h.suf (suf_cons _ _) (h.1.tail hp)
theorem TkOk.s {S E : Int → Prop} {p : Tk} {l : List Tk} (h : TkOk S E (p :: l)) (hp : p.1 ≠ 0) : S p.2.2 := h.2.1 p List.mem_cons_self hp
theorem TkOk.e {S E : Int → Prop} {p : Tk} {l : List Tk} (h : TkOk S E (p :: l)) : E p.2.2 := h.2.2 p List.mem_cons_self
theorem PlN.leaf {S : Int → Prop} {k : Int} {t : ByteArray} {a : Int} (h : S a) : PlN S (.mk k t [] a) := .mk _ _ _ _ h (fun n hn => by cases hn)
theorem PlN.one {S : Int → Prop} {k : Int} {t : ByteArray} {a : Int} {n : Nd} (h : S a) (hn : PlN S n) : PlN S (.mk k t [n] a) := .mk _ _ _ _ h (fun m hm => by simp at hm; subst hm; exact hn)
theorem PlN.two {S : Int → Prop} {k : Int} {t : ByteArray} {a : Int} {n m : Nd} (h : S a) (hn : PlN S n) (hm : PlN S m) : PlN S (.mk k t [n, m] a) := .mk _ _ _ _ h (fun x hx => by simp at hx; rcases hx with rfl | rfl <;> assumption)
theorem PlN.kids {S : Int → Prop} {k : Int} {t : ByteArray} {ks : List Nd} {a : Int} (h : S a) (hk : ∀ m ∈ ks, PlN S m) : PlN S (.mk k t ks a) := .mk _ _ _ _ h hk
theorem par_good (S E : Int → Prop) : ∀ (f : Nat) (g : Tg) (d : Nat) (l : List Tk), okTg g → TkOk S E l → PlT S g → need g l ≤ f → GoodR S E g l (par f g d l)
 | 0, g, d, l, hg, hl, hp, hf => by
  exfalso
  obtain ⟨p, l', rfl⟩ := hl.1.cons
  cases g <;> simp only [need, okTg, zl] at hf hg <;> omega
 | f + 1, g, d, [], hg, hl, hp, hf => hl.1.elim
 | f + 1, .lv lev, d, p :: l, hg, hl, hp, hf => by
  have ih := par_good S E f
  simp only [need, zl] at hf
  simp only [okTg] at hg
  rw [par_succ]; unfold pst; dsimp only
  by_cases h2 : lev = 2
  ·rw [if_pos h2]
   by_cases hi : isT p [(4, notB)] = true
   ·rw [if_pos hi]
    have hk := isT_kind hi (by simp)
    by_cases hd : d = 20
    ·rw [if_pos hd]; exact ⟨.inr rfl, hl.e⟩
    ·rw [if_neg hd]
     have q := ih (.lv 2) (d + 1) l (by simp [okTg]) (hl.tail hk) trivial (by simp only [need]; omega)
     cases hr : par f (.lv 2) (d + 1) l with
     | no a e => rw [hr] at q; exact q
     | ok n l1 =>
      rw [hr] at q
      exact ⟨q.1, by have := q.2.1; simp only [most, zl] at this ⊢; omega, suf_trans (suf_cons _ _) q.2.2.1, PlN.one (hl.s hk) q.2.2.2⟩
   ·rw [if_neg hi]
    have q := ih (.lv 3) d (p :: l) (by simp [okTg]) hl trivial (by simp only [need, zl]; omega)
    cases hr : par f (.lv 3) d (p :: l) with
    | no a e => rw [hr] at q; exact q
    | ok n l1 => rw [hr] at q; exact q
  rw [if_neg h2]
  by_cases h6 : lev = 6
  ·rw [if_pos h6]
   by_cases hi : isT p [(5, b1 45)] = true
   ·rw [if_pos hi]
    have hk := isT_kind hi (by simp)
    by_cases hd : d = 20
    ·rw [if_pos hd]; exact ⟨.inr rfl, hl.e⟩
    ·rw [if_neg hd]
     have q := ih (.lv 6) (d + 1) l (by simp [okTg]) (hl.tail hk) trivial (by simp only [need]; omega)
     cases hr : par f (.lv 6) (d + 1) l with
     | no a e => rw [hr] at q; exact q
     | ok n l1 =>
      rw [hr] at q
      exact ⟨q.1, by have := q.2.1; simp only [most, zl] at this ⊢; omega, suf_trans (suf_cons _ _) q.2.2.1, PlN.one (hl.s hk) q.2.2.2⟩
   ·rw [if_neg hi]
    have q := ih (.lv 7) d (p :: l) (by simp [okTg]) hl trivial (by simp only [need, zl]; omega)
    cases hr : par f (.lv 7) d (p :: l) with
    | no a e => rw [hr] at q; exact q
    | ok n l1 => rw [hr] at q; exact q
  rw [if_neg h6]
  by_cases h3 : lev = 3
  ·rw [if_pos h3]
   have q := ih (.lv 4) d (p :: l) (by simp [okTg]) hl trivial (by simp only [need, zl]; omega)
   cases hr : par f (.lv 4) d (p :: l) with
   | no a e => rw [hr] at q; exact q
   | ok n l1 =>
    rw [hr] at q
    have hl1 := hl.suf q.2.2.1 q.1
    have hm := q.2.1
    simp only [most, zl] at hm
    obtain ⟨x, l2, rfl⟩ := q.1.cons
    dsimp only [cmpK]
    by_cases hi : isT x (sgs 3) = true
    ·rw [if_pos hi]
     have hk := isT_kind hi (sgs_kind 3)
     simp only [zl] at hm
     have q2 := ih (.lv 4) d l2 (by simp [okTg]) (hl1.tail hk) trivial (by simp only [need]; omega)
     cases hr2 : par f (.lv 4) d l2 with
     | no a e => rw [hr2] at q2; exact q2
     | ok m l3 =>
      rw [hr2] at q2
      have := q2.2.1
      simp only [most] at this
      exact ⟨q2.1, by simp only [most, zl]; omega, suf_trans (suf_trans q.2.2.1 (suf_cons _ _)) q2.2.2.1, PlN.two (hl1.s hk) q.2.2.2 q2.2.2.2⟩
    ·rw [if_neg hi]; exact q
  rw [if_neg h3]
  by_cases h7 : lev = 7
  ·rw [if_pos h7]
   have q := ih (.lv 8) d (p :: l) (by simp [okTg]) hl trivial (by simp only [need, zl]; omega)
   cases hr : par f (.lv 8) d (p :: l) with
   | no a e => rw [hr] at q; exact q
   | ok n l1 =>
    rw [hr] at q
    have hm := q.2.1
    simp only [most, zl] at hm
    have q2 := ih (.zs n) d l1 trivial (hl.suf q.2.2.1 q.1) q.2.2.2 (by simp only [need]; omega)
    dsimp only
    cases hr2 : par f (.zs n) d l1 with
    | no a e => rw [hr2] at q2; exact q2
    | ok m l3 =>
     rw [hr2] at q2
     have := q2.2.1
     simp only [most] at this
     exact ⟨q2.1, by simp only [most, zl]; omega, suf_trans q.2.2.1 q2.2.2.1, q2.2.2.2⟩
  rw [if_neg h7]
  by_cases h8 : lev = 8
  ·rw [if_pos h8]
   have q := ih (.lv 9) d (p :: l) (by simp [okTg]) hl trivial (by simp only [need, zl]; omega)
   cases hr : par f (.lv 9) d (p :: l) with
   | no a e => rw [hr] at q; exact q
   | ok n l1 =>
    rw [hr] at q
    have hm := q.2.1
    simp only [most, zl] at hm
    have q2 := ih (.cs n) d l1 trivial (hl.suf q.2.2.1 q.1) q.2.2.2 (by simp only [need]; omega)
    dsimp only
    cases hr2 : par f (.cs n) d l1 with
    | no a e => rw [hr2] at q2; exact q2
    | ok m l3 =>
     rw [hr2] at q2
     have := q2.2.1
     simp only [most] at this
     exact ⟨q2.1, by simp only [most, zl]; omega, suf_trans q.2.2.1 q2.2.2.1, q2.2.2.2⟩
  rw [if_neg h8]
  by_cases h9 : lev = 9
  ·rw [if_pos h9]
   have leaf : ∀ (k : Int), p.1 ≠ 0 → GoodR S E (.lv lev) (p :: l) (.ok (.mk k p.2.1 [] p.2.2) l) := fun k hk =>
    ⟨hl.1.tail hk, by simp [most], suf_cons _ _, PlN.leaf (hl.s hk)⟩
   by_cases c1 : p.1 = 1
   ·rw [if_pos c1]; exact leaf 1 (by omega)
   rw [if_neg c1]
   by_cases c2 : p.1 = 2
   ·rw [if_pos c2]; exact leaf 2 (by omega)
   rw [if_neg c2]
   by_cases c3 : p.1 = 3
   ·rw [if_pos c3]; exact leaf 3 (by omega)
   rw [if_neg c3]
   by_cases c4 : isT p [(4, trueB), (4, falseB)] = true
   ·rw [if_pos c4]; exact leaf 4 (isT_kind c4 (by simp))
   rw [if_neg c4]
   by_cases c5 : isT p [(5, b1 40)] = true
   ·rw [if_pos c5]
    have hk := isT_kind c5 (by simp)
    by_cases hd : d = 20
    ·rw [if_pos hd]; exact ⟨.inr rfl, hl.e⟩
    rw [if_neg hd]
    have q := ih (.lv 0) (d + 1) l (by simp [okTg]) (hl.tail hk) trivial (by simp only [need]; omega)
    cases hr : par f (.lv 0) (d + 1) l with
    | no a e => rw [hr] at q; exact q
    | ok n l1 =>
     rw [hr] at q
     have hl1 := (hl.tail hk).suf q.2.2.1 q.1
     have hm := q.2.1
     simp only [most] at hm
     obtain ⟨x, l2, rfl⟩ := q.1.cons
     dsimp only
     by_cases hi : isT x [(5, b1 41)] = true
     ·rw [if_pos hi]
      have hk2 := isT_kind hi (by simp)
      simp only [zl] at hm
      exact ⟨hl1.1.tail hk2, by simp only [most, zl]; omega, suf_trans (suf_trans (suf_cons _ _) q.2.2.1) (suf_cons _ _), q.2.2.2⟩
     ·rw [if_neg hi]; exact ⟨.inl rfl, hl1.e⟩
   rw [if_neg c5]
   by_cases c6 : free p = true
   ·rw [if_pos c6]
    have hk := free_kind c6
    have hl1 := hl.tail hk
    obtain ⟨q, l1, rfl⟩ := hl1.1.cons
    simp only [zl] at hf
    dsimp only
    by_cases c7 : q.1 = 3 ∧ typB p.2.1 = true
    ·rw [if_pos c7]
     have hq : q.1 ≠ 0 := by omega
     exact ⟨hl1.1.tail hq, by simp only [most, zl]; omega, suf_trans (suf_cons _ _) (suf_cons _ _), PlN.one (hl.s hk) (PlN.leaf (hl1.s hq))⟩
    rw [if_neg c7]
    by_cases c8 : isT q [(5, b1 40)] = true
    ·rw [if_pos c8]
     have hq := isT_kind c8 (by simp)
     by_cases hd : d = 20
     ·rw [if_pos hd]; exact ⟨.inr rfl, hl.e⟩
     rw [if_neg hd]
     have hl2 := hl1.tail hq
     obtain ⟨r, l2, rfl⟩ := hl2.1.cons
     simp only [zl] at hf
     dsimp only
     by_cases c9 : isT r [(5, b1 41)] = true
     ·rw [if_pos c9]
      have hr := isT_kind c9 (by simp)
      exact ⟨hl2.1.tail hr, by simp only [most, zl]; omega, suf_trans (suf_trans (suf_cons _ _) (suf_cons _ _)) (suf_cons _ _), PlN.leaf (hl.s hk)⟩
     rw [if_neg c9]
     have q2 := ih (.ks []) (d + 1) (r :: l2) trivial hl2 (fun n hn => by cases hn) (by simp only [need, zl]; omega)
     cases hr2 : par f (.ks []) (d + 1) (r :: l2) with
     | no a e => rw [hr2] at q2; exact q2
     | ok n l3 =>
      rw [hr2] at q2
      have := q2.2.1
      simp only [most, zl] at this
      exact ⟨q2.1, by simp only [most, zl]; omega, suf_trans (suf_trans (suf_cons _ _) (suf_cons _ _)) q2.2.2.1, PlN.kids (hl.s hk) q2.2.2.2⟩
    ·rw [if_neg c8]; exact ⟨.inl rfl, hl1.e⟩
   ·rw [if_neg c6]; exact ⟨.inl rfl, hl.e⟩
  rw [if_neg h9]
  have q := ih (.lv (lev + 1)) d (p :: l) (by simp [okTg]; omega) hl trivial (by simp only [need, zl]; omega)
  cases hr : par f (.lv (lev + 1)) d (p :: l) with
  | no a e => rw [hr] at q; exact q
  | ok n l1 =>
   rw [hr] at q
   have hm := q.2.1
   simp only [most, zl] at hm
   have q2 := ih (.lp lev n) d l1 (by simp only [okTg]; omega) (hl.suf q.2.2.1 q.1) q.2.2.2 (by simp only [need]; omega)
   dsimp only
   cases hr2 : par f (.lp lev n) d l1 with
   | no a e => rw [hr2] at q2; exact q2
   | ok m l3 =>
    rw [hr2] at q2
    have := q2.2.1
    simp only [most] at this
    exact ⟨q2.1, by simp only [most, zl]; omega, suf_trans q.2.2.1 q2.2.2.1, q2.2.2.2⟩
 | f + 1, .lp lev n, d, q :: l, hg, hl, hp, hf => by
  have ih := par_good S E f
  simp only [need, zl] at hf
  simp only [okTg] at hg
  rw [par_succ]; unfold pst; dsimp only
  by_cases hi : isT q (sgs lev) = true
  ·rw [if_pos hi]
   have hk := isT_kind hi (sgs_kind lev)
   have q1 := ih (.lv (lev + 1)) d l (by simp only [okTg]; omega) (hl.tail hk) trivial (by simp only [need]; omega)
   cases hr : par f (.lv (lev + 1)) d l with
   | no a e => rw [hr] at q1; exact q1
   | ok m l1 =>
    rw [hr] at q1
    have hm := q1.2.1
    simp only [most] at hm
    have q2 := ih (.lp lev (.mk 8 q.2.1 [n, m] q.2.2)) d l1 hg ((hl.tail hk).suf q1.2.2.1 q1.1) (PlN.two (hl.s hk) hp q1.2.2.2) (by simp only [need]; omega)
    dsimp only
    cases hr2 : par f (.lp lev (.mk 8 q.2.1 [n, m] q.2.2)) d l1 with
    | no a e => rw [hr2] at q2; exact q2
    | ok x l3 =>
     rw [hr2] at q2
     have := q2.2.1
     simp only [most] at this
     exact ⟨q2.1, by simp only [most, zl]; omega, suf_trans (suf_trans (suf_cons _ _) q1.2.2.1) q2.2.2.1, q2.2.2.2⟩
  ·rw [if_neg hi]; exact ⟨hl.1, Nat.le_refl _, suf_self _, hp⟩
 | f + 1, .zs n, d, q :: l, hg, hl, hp, hf => by
  have ih := par_good S E f
  simp only [need, zl] at hf
  rw [par_succ]; unfold pst; dsimp only
  by_cases hi : isT q [(4, atB)] = true
  ·rw [if_pos hi]
   have hk := isT_kind hi (by simp)
   have hl1 := hl.tail hk
   obtain ⟨t, l1, rfl⟩ := hl1.1.cons
   dsimp only
   by_cases h1 : isT t [(4, timeB)] = true
   ·rw [if_pos h1]
    have hk1 := isT_kind h1 (by simp)
    have hl2 := hl1.tail hk1
    obtain ⟨z, l2, rfl⟩ := hl2.1.cons
    dsimp only
    by_cases h2 : isT z [(4, zoneB)] = true
    ·rw [if_pos h2]
     have hk2 := isT_kind h2 (by simp)
     simp only [zl] at hf
     have q1 := ih (.lv 8) d l2 (by simp [okTg]) (hl2.tail hk2) trivial (by simp only [need]; omega)
     cases hr : par f (.lv 8) d l2 with
     | no a e => rw [hr] at q1; exact q1
     | ok m l3 =>
      rw [hr] at q1
      have hm := q1.2.1
      simp only [most] at hm
      have q2 := ih (.zs (.mk 8 atzB [n, m] q.2.2)) d l3 trivial ((hl2.tail hk2).suf q1.2.2.1 q1.1) (PlN.two (hl.s hk) hp q1.2.2.2) (by simp only [need]; omega)
      dsimp only
      cases hr2 : par f (.zs (.mk 8 atzB [n, m] q.2.2)) d l3 with
      | no a e => rw [hr2] at q2; exact q2
      | ok x l4 =>
       rw [hr2] at q2
       have := q2.2.1
       simp only [most] at this
       exact ⟨q2.1, by simp only [most, zl]; omega, suf_trans (suf_trans (suf_trans (suf_trans (suf_cons _ _) (suf_cons _ _)) (suf_cons _ _)) q1.2.2.1) q2.2.2.1, q2.2.2.2⟩
    ·rw [if_neg h2]; exact ⟨.inl rfl, hl2.e⟩
   ·rw [if_neg h1]; exact ⟨.inl rfl, hl1.e⟩
  ·rw [if_neg hi]; exact ⟨hl.1, Nat.le_refl _, suf_self _, hp⟩
 | f + 1, .cs n, d, q :: l, hg, hl, hp, hf => by
  have ih := par_good S E f
  simp only [need, zl] at hf
  rw [par_succ]; unfold pst; dsimp only
  by_cases hi : isT q [(5, b2 58 58)] = true
  ·rw [if_pos hi]
   have hk := isT_kind hi (by simp)
   have hl1 := hl.tail hk
   obtain ⟨t, l1, rfl⟩ := hl1.1.cons
   dsimp only
   by_cases h1 : free t = true
   ·rw [if_pos h1]
    have hk1 := free_kind h1
    simp only [zl] at hf
    have q2 := ih (.cs (.mk 10 t.2.1 [n] q.2.2)) d l1 trivial (hl1.tail hk1) (PlN.one (hl.s hk) hp) (by simp only [need]; omega)
    cases hr2 : par f (.cs (.mk 10 t.2.1 [n] q.2.2)) d l1 with
    | no a e => rw [hr2] at q2; exact q2
    | ok x l4 =>
     rw [hr2] at q2
     have := q2.2.1
     simp only [most] at this
     exact ⟨q2.1, by simp only [most, zl]; omega, suf_trans (suf_trans (suf_cons _ _) (suf_cons _ _)) q2.2.2.1, q2.2.2.2⟩
   ·rw [if_neg h1]; exact ⟨.inl rfl, hl1.e⟩
  ·rw [if_neg hi]; exact ⟨hl.1, Nat.le_refl _, suf_self _, hp⟩
 | f + 1, .ks acc, d, p :: l, hg, hl, hp, hf => by
  have ih := par_good S E f
  simp only [need, zl] at hf
  rw [par_succ]; unfold pst; dsimp only
  have q := ih (.lv 0) d (p :: l) (by simp [okTg]) hl trivial (by simp only [need, zl]; omega)
  cases hr : par f (.lv 0) d (p :: l) with
  | no a e => rw [hr] at q; exact q
  | ok n l1 =>
   rw [hr] at q
   have hl1 := hl.suf q.2.2.1 q.1
   have hm := q.2.1
   simp only [most, zl] at hm
   obtain ⟨x, l2, rfl⟩ := q.1.cons
   simp only [zl] at hm
   dsimp only
   have hall : ∀ m ∈ acc ++ [n], PlN S m := fun m hm => by
    rcases List.mem_append.1 hm with h | h
    ·exact hp m h
    ·simp at h; subst h; exact q.2.2.2
   by_cases hi : isT x [(5, b1 44)] = true
   ·rw [if_pos hi]
    have hk := isT_kind hi (by simp)
    have q2 := ih (.ks (acc ++ [n])) d l2 trivial (hl1.tail hk) hall (by simp only [need]; omega)
    cases hr2 : par f (.ks (acc ++ [n])) d l2 with
    | no a e => rw [hr2] at q2; exact q2
    | ok y l4 =>
     rw [hr2] at q2
     have := q2.2.1
     simp only [most] at this
     exact ⟨q2.1, by simp only [most, zl]; omega, suf_trans (suf_trans q.2.2.1 (suf_cons _ _)) q2.2.2.1, q2.2.2.2⟩
   ·rw [if_neg hi]
    by_cases hj : isT x [(5, b1 41)] = true
    ·rw [if_pos hj]
     have hk := isT_kind hj (by simp)
     exact ⟨hl1.1.tail hk, by simp only [most, zl]; omega, suf_trans q.2.2.1 (suf_cons _ _), hall⟩
    ·rw [if_neg hj]; exact ⟨.inl rfl, hl1.e⟩
def bt (s : ByteArray) (i : Nat) : Nat := (s.get! i).toNat
theorem dec_shape (s : ByteArray) (pos : Nat) (h : pos < s.size) :
  (bt s pos < 128 ∧ Utf8.decode s pos = (bt s pos, 1)) ∨
  (128 ≤ bt s pos ∧ Utf8.decode s pos = (65533, 1)) ∨
  (128 ≤ bt s pos ∧ 2 ≤ (Utf8.decode s pos).2 ∧ (Utf8.decode s pos).2 ≤ 4 ∧ pos + (Utf8.decode s pos).2 ≤ s.size ∧ 128 ≤ (Utf8.decode s pos).1 ∧
   (∀ j, 1 ≤ j → j < (Utf8.decode s pos).2 → 128 ≤ bt s (pos + j)) ∧ Lib.runeLen ((Utf8.decode s pos).1 : Int) = ((Utf8.decode s pos).2 : Int)) := by
 have h0 : bt s pos < 256 := UInt8.toNat_lt _
 have h1 : bt s (pos + 1) < 256 := UInt8.toNat_lt _
 have h2 : bt s (pos + 2) < 256 := UInt8.toNat_lt _
 have h3 : bt s (pos + 3) < 256 := UInt8.toNat_lt _
 have e := Lib.decode_at s pos
 change Utf8.decode s pos = Lib.decodeN (s.size - pos) (bt s pos) (bt s (pos + 1)) (bt s (pos + 2)) (bt s (pos + 3)) at e
 rcases Lib.decodeN_shape (s.size - pos) (bt s pos) (bt s (pos + 1)) (bt s (pos + 2)) (bt s (pos + 3)) with ⟨c, q⟩ | ⟨c1, c2, c3, cv, q⟩ | ⟨c1, c2, c3, c4, cv, cs, q⟩ | ⟨c1, c2, c3, c4, c5, cv, cw, q⟩ | q
 ·exact .inl ⟨c, e.trans q⟩
 ·rw [e, q]
  refine .inr (.inr ⟨by omega, by simp, by simp, by simp; omega, by simp; omega, ?_, ?_⟩)
  ·intro j a b
   obtain rfl : j = 1 := by simp at b; omega
   omega
  ·unfold Lib.runeLen; dsimp only; repeat' split
   all_goals omega
 ·rw [e, q]
  refine .inr (.inr ⟨by omega, by simp, by simp, by simp; omega, by simp; omega, ?_, ?_⟩)
  ·intro j a b
   have : j = 1 ∨ j = 2 := by simp at b; omega
   rcases this with rfl | rfl <;> omega
  ·unfold Lib.runeLen; dsimp only; repeat' split
   all_goals omega
 ·rw [e, q]
  refine .inr (.inr ⟨by omega, by simp, by simp, by simp; omega, by simp; omega, ?_, ?_⟩)
  ·intro j a b
   have : j = 1 ∨ j = 2 ∨ j = 3 := by simp at b; omega
   rcases this with rfl | rfl | rfl <;> omega
  ·unfold Lib.runeLen; dsimp only; repeat' split
   all_goals omega
 ·by_cases c : bt s pos < 128
  ·refine .inl ⟨c, ?_⟩
   rw [e]; unfold Lib.decodeN; rw [if_pos c]
  ·exact .inr (.inl ⟨by omega, e.trans q⟩)
def kindW (R : Int) (wd : Nat) : Int :=
 if R = 32 ∨ R = 9 ∨ R = 10 ∨ R = 13 then 0
 else if R < 32 ∨ R = 127 then -1
 else if 48 ≤ R ∧ R ≤ 57 then 1
 else if R = 65533 then (if wd = 1 then -1 else 2)
 else if 127 < R ∨ R = 95 ∨ (97 ≤ R ∧ R ≤ 122) ∨ (65 ≤ R ∧ R ≤ 90) then 2
 else 3
theorem kindW_range (R : Int) (wd : Nat) : kindW R wd = -1 ∨ kindW R wd = 0 ∨ kindW R wd = 1 ∨ kindW R wd = 2 ∨ kindW R wd = 3 := by
 unfold kindW; repeat' split
 all_goals simp
def kindP (s : ByteArray) (pos : Nat) : Int := kindW ((Utf8.decode s pos).1 : Int) (Utf8.decode s pos).2
theorem wd_pos (s : ByteArray) (pos : Nat) : 1 ≤ (Utf8.decode s pos).2 := Lib.width_pos s pos
theorem wd_le (s : ByteArray) (pos : Nat) (h : pos < s.size) : pos + (Utf8.decode s pos).2 ≤ s.size := by
 rcases dec_shape s pos h with ⟨_, e⟩ | ⟨_, e⟩ | ⟨_, _, _, e, _⟩
 ·rw [e]; simp only; omega
 ·rw [e]; simp only; omega
 ·exact e
theorem wd_len (s : ByteArray) (pos : Nat) (h : pos < s.size) (hk : kindP s pos ≠ -1) : Lib.runeLen ((Utf8.decode s pos).1 : Int) = ((Utf8.decode s pos).2 : Int) := by
 rcases dec_shape s pos h with ⟨c, e⟩ | ⟨_, e⟩ | ⟨_, _, _, _, _, _, e⟩
 ·rw [e]; unfold Lib.runeLen; simp only; repeat' split
  all_goals omega
 ·exfalso; apply hk; unfold kindP; rw [e]; rfl
 ·exact e
abbrev Prt := Int × Nat × Nat
def splitF (s : ByteArray) : Nat → Nat → List Prt → Int → Sum Nat (List Prt)
 | 0, _, l, _ => .inr l
 | f + 1, pos, l, a =>
  if pos < s.size then
   if kindP s pos = -1 then .inl pos
   else if kindP s pos = 0 then splitF s f (pos + (Utf8.decode s pos).2) l 0
   else if kindP s pos = 3 ∨ kindP s pos ≠ a then splitF s f (pos + (Utf8.decode s pos).2) (l ++ [(kindP s pos, pos, pos + (Utf8.decode s pos).2)]) (kindP s pos)
   else splitF s f (pos + (Utf8.decode s pos).2) (l.dropLast ++ [((l.getLast?.getD (0, 0, 0)).1, (l.getLast?.getD (0, 0, 0)).2.1, pos + (Utf8.decode s pos).2)]) (kindP s pos)
  else .inr l
theorem splitF_end (s : ByteArray) (f pos : Nat) (l : List Prt) (a : Int) (h : ¬ pos < s.size) : splitF s f pos l a = .inr l := by
 cases f with
 | zero => rfl
 | succ f => simp [splitF, h]
theorem splitF_wrong {s : ByteArray} {f pos : Nat} {l : List Prt} {a : Int} (hp : pos < s.size) (h : kindP s pos = -1) : splitF s (f + 1) pos l a = .inl pos := by
 rw [splitF, if_pos hp, if_pos h]
theorem splitF_blank {s : ByteArray} {f pos : Nat} {l : List Prt} {a : Int} (hp : pos < s.size) (h : kindP s pos = 0) : splitF s (f + 1) pos l a = splitF s f (pos + (Utf8.decode s pos).2) l 0 := by
 rw [splitF, if_pos hp, if_neg (by omega), if_pos h]
theorem splitF_new {s : ByteArray} {f pos : Nat} {l : List Prt} {a : Int} (hp : pos < s.size) (h1 : kindP s pos ≠ -1) (h0 : kindP s pos ≠ 0) (h : kindP s pos = 3 ∨ kindP s pos ≠ a) :
  splitF s (f + 1) pos l a = splitF s f (pos + (Utf8.decode s pos).2) (l ++ [(kindP s pos, pos, pos + (Utf8.decode s pos).2)]) (kindP s pos) := by
 rw [splitF, if_pos hp, if_neg h1, if_neg h0, if_pos h]
theorem splitF_more {s : ByteArray} {f pos : Nat} {l : List Prt} {a k : Int} {x y : Nat} (hp : pos < s.size) (h1 : kindP s pos ≠ -1) (h0 : kindP s pos ≠ 0) (h3 : kindP s pos ≠ 3) (h : kindP s pos = a) :
  splitF s (f + 1) pos (l ++ [(k, x, y)]) a = splitF s f (pos + (Utf8.decode s pos).2) (l ++ [(k, x, pos + (Utf8.decode s pos).2)]) a := by
 rw [splitF, if_pos hp, if_neg h1, if_neg h0, if_neg (fun q => by rcases q with q | q; exact h3 q; exact q h)]
 simp [h]
def splitB (s : ByteArray) : Sum Nat (List Prt) := splitF s s.size 0 [] 0
def lowC (c : UInt8) : UInt8 := if 65 ≤ c.toNat ∧ c.toNat ≤ 90 then c + 32 else c
def lowB (s : ByteArray) : ByteArray := ⟨s.data.map lowC⟩
def lowTo (s : ByteArray) (p : Nat) : List UInt8 := (s.data.toList.take p).map lowC ++ s.data.toList.drop p
theorem sz (s : ByteArray) : s.data.toList.length = s.size := Array.length_toList
theorem lowB_size (s : ByteArray) : (lowB s).size = s.size := by show (s.data.map lowC).size = s.data.size; exact Array.size_map
theorem low32 (c : UInt8) (h : 65 ≤ c.toNat ∧ c.toNat ≤ 90) : (c + 32).toNat = c.toNat + 32 := by rw [UInt8.toNat_add]; simp; omega
theorem lowC_lowC (c : UInt8) : lowC (lowC c) = lowC c := by
 unfold lowC
 by_cases h : 65 ≤ c.toNat ∧ c.toNat ≤ 90
 ·have := low32 c h
  simp only [h, and_self, if_true]
  rw [if_neg (by omega)]
 ·simp only [h, if_false]
theorem lowB_lowB (s : ByteArray) : lowB (lowB s) = lowB s := by
 unfold lowB
 simp only [Array.map_map]
 congr 2
 funext c
 exact lowC_lowC c
theorem lowTo_get (s : ByteArray) (p j : Nat) : (lowTo s p)[j]? = (s.data.toList[j]?).map (fun c => if j < p then lowC c else c) := by
 unfold lowTo
 by_cases hj : j < s.data.toList.length
 ·by_cases h : j < p
  ·rw [List.getElem?_append_left (by simp at hj ⊢; omega)]
   simp [h]
  ·have hl : ((s.data.toList.take p).map lowC).length = p := by rw [List.length_map, List.length_take]; omega
   rw [List.getElem?_append_right (by rw [hl]; omega), hl, List.getElem?_drop, show p + (j - p) = j by omega]
   simp [h]
 ·rw [List.getElem?_eq_none (by simp only [List.length_append, List.length_map, List.length_take, List.length_drop]; omega), List.getElem?_eq_none (by omega)]
  rfl
theorem lowTo_length (s : ByteArray) (p : Nat) : (lowTo s p).length = s.size := by
 unfold lowTo; simp only [List.length_append, List.length_map, List.length_take, List.length_drop, Array.length_toList]; show _ = s.data.size; omega
theorem lowTo_zero (s : ByteArray) : lowTo s 0 = s.data.toList := by simp [lowTo]
theorem lowTo_all (s : ByteArray) (p : Nat) (h : s.size ≤ p) : lowTo s p = (lowB s).data.toList := by
 unfold lowTo lowB
 rw [List.take_of_length_le (by rw [sz]; exact h), List.drop_of_length_le (by rw [sz]; exact h)]
 simp
theorem lowTo_end (s : ByteArray) (p : Nat) (h : ¬ p < s.size) : (⟨(lowTo s p).toArray⟩ : ByteArray) = lowB s := by
 rw [lowTo_all s p (by omega)]
theorem get_lt (s : ByteArray) (k : Nat) (h : k < s.size) : s.get! k = s[k]'h := by
 show s.data[k]! = _
 rw [getElem!_pos s.data k h]
 rfl
theorem bt_get (s : ByteArray) (j : Nat) (h : j < s.size) : s.data.toList[j]? = some (s[j]'h) ∧ (s[j]'h).toNat = bt s j := by
 constructor
 ·rw [List.getElem?_eq_getElem (by rw [sz]; exact h)]; rfl
 ·unfold bt; rw [get_lt s j h]
theorem lowTo_skip (s : ByteArray) (pos : Nat) (h : pos < s.size) (hR : ¬ (65 ≤ (Utf8.decode s pos).1 ∧ (Utf8.decode s pos).1 ≤ 90)) :
  lowTo s (pos + (Utf8.decode s pos).2) = lowTo s pos := by
 have key : ∀ j, pos ≤ j → j < pos + (Utf8.decode s pos).2 → j < s.size → ¬ (65 ≤ bt s j ∧ bt s j ≤ 90) := by
  intro j a b hj
  rcases dec_shape s pos h with ⟨c, e⟩ | ⟨c, e⟩ | ⟨c, _, _, _, _, d, _⟩
  ·rw [e] at hR b
   obtain rfl : j = pos := by simp only at b; omega
   exact hR
  ·rw [e] at b
   obtain rfl : j = pos := by simp only at b; omega
   omega
  ·by_cases q : j = pos
   ·subst q; omega
   ·have := d (j - pos) (by omega) (by omega)
    rw [show pos + (j - pos) = j by omega] at this
    omega
 apply List.ext_getElem?
 intro j
 rw [lowTo_get, lowTo_get]
 by_cases hj : j < s.size
 ·obtain ⟨e1, e2⟩ := bt_get s j hj
  rw [e1]
  simp only [Option.map_some, Option.some.injEq]
  by_cases c1 : j < pos
  ·rw [if_pos c1, if_pos (by omega)]
  ·rw [if_neg c1]
   by_cases c2 : j < pos + (Utf8.decode s pos).2
   ·rw [if_pos c2]
    unfold lowC
    rw [if_neg (by rw [e2]; exact key j (by omega) c2 hj)]
   ·rw [if_neg c2]
 ·rw [List.getElem?_eq_none (by rw [sz]; omega)]
  rfl
theorem lowTo_put (s : ByteArray) (pos : Nat) (h : pos < s.size) (hR : 65 ≤ (Utf8.decode s pos).1 ∧ (Utf8.decode s pos).1 ≤ 90) :
  (Utf8.decode s pos) = (bt s pos, 1) ∧ (lowTo s pos)[pos]? = some (s[pos]'h) ∧ lowTo s (pos + (Utf8.decode s pos).2) = (lowTo s pos).set pos (s[pos]'h + 32) ∧ (s[pos]'h + 32).toNat = (Utf8.decode s pos).1 + 32 ∧ (s[pos]'h).toNat = (Utf8.decode s pos).1 := by
 obtain ⟨e1, e2⟩ := bt_get s pos h
 rcases dec_shape s pos h with ⟨c, e⟩ | ⟨c, e⟩ | ⟨c, _, _, _, _, d, _⟩
 ·have hb : 65 ≤ (s[pos]'h).toNat ∧ (s[pos]'h).toNat ≤ 90 := by rw [e] at hR; simp only at hR; omega
  refine ⟨e, by rw [lowTo_get, e1]; simp, ?_, by rw [low32 _ hb, e, e2], by rw [e, e2]⟩
  apply List.ext_getElem?
  intro j
  rw [e, List.getElem?_set, lowTo_get, lowTo_get]
  by_cases q : pos = j
  ·subst q
   rw [if_pos rfl, if_pos (by rw [lowTo_length]; exact h), e1]
   simp only [Option.map_some, Option.some.injEq]
   rw [if_pos (by omega)]
   unfold lowC
   rw [if_pos hb]
  ·rw [if_neg q]
   have : (j < pos + 1) = (j < pos) := propext ⟨fun _ => by omega, fun _ => by omega⟩
   simp only [this]
 ·rw [e] at hR; simp only at hR; omega
 ·omega
def rN (c : Nat) : Nat := if 194 ≤ c ∧ c ≤ 223 then 2 else if 224 ≤ c ∧ c ≤ 239 then 3 else if 240 ≤ c ∧ c ≤ 244 then 4 else 0
def rLo (c : Nat) : Nat := if c = 224 then 160 else if c = 240 then 144 else 128
def rHi (c : Nat) : Nat := if c = 237 then 159 else if c = 244 then 143 else 191
def rlong (s : ByteArray) (i : Nat) : Nat :=
 if bt s i < 128 then 1
 else if rN (bt s i) = 0 ∨ s.size - i < rN (bt s i) ∨ bt s (i + 1) < rLo (bt s i) ∨ rHi (bt s i) < bt s (i + 1) then 0
 else if 3 ≤ rN (bt s i) ∧ (bt s (i + 2) < 128 ∨ 191 < bt s (i + 2)) then 0
 else if 4 ≤ rN (bt s i) ∧ (bt s (i + 3) < 128 ∨ 191 < bt s (i + 3)) then 0
 else rN (bt s i)
theorem rlong_decodeN (n b0 b1 b2 b3 : Nat) (hn : 1 ≤ n) (h0 : b0 < 256) (h1 : b1 < 256) (h2 : b2 < 256) (h3 : b3 < 256) (hb : 128 ≤ b0) :
  (if rN b0 = 0 ∨ n < rN b0 ∨ b1 < rLo b0 ∨ rHi b0 < b1 then 0
   else if 3 ≤ rN b0 ∧ (b2 < 128 ∨ 191 < b2) then 0
   else if 4 ≤ rN b0 ∧ (b3 < 128 ∨ 191 < b3) then 0
   else rN b0) = if Lib.decodeN n b0 b1 b2 b3 = (65533, 1) then 0 else (Lib.decodeN n b0 b1 b2 b3).2 := by
 by_cases c2 : 194 ≤ b0 ∧ b0 ≤ 223
 ·rw [← Lib.slow_C2 n b0 b1 b2 b3 hn h1 h2 h3 (by omega)]
  have e1 : rN b0 = 2 := by unfold rN; rw [if_pos c2]
  have e2 : rLo b0 = 128 := by unfold rLo; rw [if_neg (by omega), if_neg (by omega)]
  have e3 : rHi b0 = 191 := by unfold rHi; rw [if_neg (by omega), if_neg (by omega)]
  rw [e1, e2, e3]
  unfold Lib.slowN
  repeat' split
  all_goals first | rfl | omega | (simp_all; done) | (simp_all; omega)
 ·by_cases c3 : 224 ≤ b0 ∧ b0 ≤ 239
  ·have e1 : rN b0 = 3 := by unfold rN; rw [if_neg c2, if_pos c3]
   rw [e1]
   have hq : ∃ lo hi, rLo b0 = lo ∧ rHi b0 = hi ∧ Lib.slowN n b0 b1 b2 b3 3 lo hi = Lib.decodeN n b0 b1 b2 b3 := by
    by_cases a : b0 = 224
    ·exact ⟨160, 191, by unfold rLo; rw [if_pos a], by unfold rHi; rw [if_neg (by omega), if_neg (by omega)], Lib.slow_E0 n b0 b1 b2 b3 hn h1 h2 h3 a⟩
    ·by_cases b : b0 = 237
     ·exact ⟨128, 159, by unfold rLo; rw [if_neg (by omega), if_neg (by omega)], by unfold rHi; rw [if_pos b], Lib.slow_ED n b0 b1 b2 b3 hn h1 h2 h3 b⟩
     ·exact ⟨128, 191, by unfold rLo; rw [if_neg (by omega), if_neg (by omega)], by unfold rHi; rw [if_neg (by omega), if_neg (by omega)], Lib.slow_E1 n b0 b1 b2 b3 hn h1 h2 h3 (by omega)⟩
   obtain ⟨lo, hi, e2, e3, e⟩ := hq
   rw [e2, e3, ← e]
   unfold Lib.slowN
   repeat' split
   all_goals first | rfl | omega | (simp_all; done) | (simp_all; omega)
  ·by_cases c4 : 240 ≤ b0 ∧ b0 ≤ 244
   ·have e1 : rN b0 = 4 := by unfold rN; rw [if_neg c2, if_neg c3, if_pos c4]
    rw [e1]
    have hq : ∃ lo hi, rLo b0 = lo ∧ rHi b0 = hi ∧ Lib.slowN n b0 b1 b2 b3 4 lo hi = Lib.decodeN n b0 b1 b2 b3 := by
     by_cases a : b0 = 240
     ·exact ⟨144, 191, by unfold rLo; rw [if_neg (by omega), if_pos a], by unfold rHi; rw [if_neg (by omega), if_neg (by omega)], Lib.slow_F0 n b0 b1 b2 b3 hn h1 h2 h3 a⟩
     ·by_cases b : b0 = 244
      ·exact ⟨128, 143, by unfold rLo; rw [if_neg (by omega), if_neg (by omega)], by unfold rHi; rw [if_neg (by omega), if_pos b], Lib.slow_F4 n b0 b1 b2 b3 hn h1 h2 h3 b⟩
      ·exact ⟨128, 191, by unfold rLo; rw [if_neg (by omega), if_neg (by omega)], by unfold rHi; rw [if_neg (by omega), if_neg (by omega)], Lib.slow_F1 n b0 b1 b2 b3 hn h1 h2 h3 (by omega)⟩
    obtain ⟨lo, hi, e2, e3, e⟩ := hq
    rw [e2, e3, ← e]
    unfold Lib.slowN
    repeat' split
    all_goals first | rfl | omega | (simp_all; done) | (simp_all; omega)
   ·have e1 : rN b0 = 0 := by unfold rN; rw [if_neg c2, if_neg c3, if_neg c4]
    rw [if_pos (.inl e1)]
    have : Lib.decodeN n b0 b1 b2 b3 = (65533, 1) := by
     unfold Lib.decodeN
     repeat' split
     all_goals first | rfl | omega
    rw [if_pos this]
def blankN (c : Nat) : Bool := c == 32 || c == 9 || c == 10 || c == 13
def digitN (c : Nat) : Bool := decide (48 ≤ c) && decide (c ≤ 57)
def letterN (c : Nat) : Bool := (decide (97 ≤ c) && decide (c ≤ 122)) || (decide (65 ≤ c) && decide (c ≤ 90)) || c == 95 || decide (127 < c)
def bk (c : Nat) : Int := if blankN c then 0 else if digitN c then 1 else if letterN c then 2 else 3
theorem bk_range (c : Nat) : bk c = 0 ∨ bk c = 1 ∨ bk c = 2 ∨ bk c = 3 := by
 unfold bk; repeat' split
 all_goals simp
theorem bk_blank (c : Nat) : blankN c = true ↔ bk c = 0 := by
 unfold bk; repeat' split
 all_goals simp_all
theorem bk_hi (c : Nat) (h : 128 ≤ c) : bk c = 2 := by
 unfold bk
 have a : blankN c = false := by simp [blankN]; omega
 have b : digitN c = false := by simp [digitN]; omega
 have d : letterN c = true := by simp [letterN]; omega
 simp [a, b, d]
theorem bk_digit (c : Nat) : digitN c = true ↔ bk c = 1 := by
 unfold bk; repeat' split
 all_goals simp_all [blankN, digitN]
 all_goals omega
theorem bk_letter (c : Nat) : letterN c = true ↔ bk c = 2 := by
 unfold bk; repeat' split
 all_goals simp_all [blankN, digitN, letterN]
 all_goals omega
def badN (s : ByteArray) (i : Nat) : Bool := (rlong s i == 0) || (decide (bt s i < 32) && !blankN (bt s i)) || (bt s i == 127)
theorem rlong_eq (s : ByteArray) (i : Nat) (h : i < s.size) : rlong s i = if bt s i < 128 then 1 else if Utf8.decode s i = (65533, 1) then 0 else (Utf8.decode s i).2 := by
 unfold rlong
 by_cases c : bt s i < 128
 ·rw [if_pos c, if_pos c]
 ·rw [if_neg c, if_neg c]
  have e := Lib.decode_at s i
  change Utf8.decode s i = Lib.decodeN (s.size - i) (bt s i) (bt s (i + 1)) (bt s (i + 2)) (bt s (i + 3)) at e
  rw [e]
  exact rlong_decodeN _ _ _ _ _ (by omega) (UInt8.toNat_lt _) (UInt8.toNat_lt _) (UInt8.toNat_lt _) (UInt8.toNat_lt _) (by omega)
theorem kindW_lo (c : Nat) (h : c < 128) : kindW (c : Int) 1 = if (decide (c < 32) && !blankN c) || c == 127 then -1 else bk c := by
 unfold kindW bk blankN digitN letterN
 repeat' split
 all_goals (try simp_all)
 all_goals omega
theorem bad_kind (s : ByteArray) (i : Nat) (h : i < s.size) : (badN s i = true ↔ kindP s i = -1) ∧ (badN s i = false → kindP s i = bk (bt s i) ∧ rlong s i = (Utf8.decode s i).2) := by
  have hr := rlong_eq s i h
  unfold badN kindP
  rcases dec_shape s i h with ⟨c, e⟩ | ⟨c, e⟩ | ⟨c, d1, d2, d3, d4, d5, d6⟩
  · rw [if_pos c] at hr
    rw [hr, e]
    have hk := kindW_lo (bt s i) c
    have hb : bk (bt s i) ≠ -1 := by unfold bk; repeat' split
                                     all_goals decide
    dsimp only
    rw [hk]
    constructor
    · constructor
      · intro q
        rw [if_pos (by simpa using q)]
      · intro q
        split at q
        · rename_i z; simpa using z
        · exact absurd q hb
    · intro q
      rw [if_neg (by simpa using q)]
      exact ⟨rfl, rfl⟩
  · rw [if_neg (by omega), if_pos e] at hr
    rw [hr, e]
    constructor
    · simp [kindW]
    · intro q; simp at q
  · rw [if_neg (by omega), if_neg (fun q => by rw [q] at d1; simp at d1)] at hr
    rw [hr, bk_hi _ c]
    have f1 : ((Utf8.decode s i).2 == 0) = false := by simp; omega
    have f2 : (decide (bt s i < 32)) = false := by simp; omega
    have f3 : (bt s i == 127) = false := by simp; omega
    rw [f1, f2, f3]
    have k2 : kindW ((Utf8.decode s i).1 : Int) (Utf8.decode s i).2 = 2 := by
      unfold kindW
      rw [if_neg (by omega), if_neg (by omega), if_neg (by omega)]
      split
      · rw [if_neg (by omega)]
      · rw [if_pos (by omega)]
    rw [k2]
    exact ⟨by simp, fun _ => ⟨rfl, rfl⟩⟩
def rcheck (s : ByteArray) : Nat → Nat → Option Nat
 | 0, _ => none
 | f + 1, i => if i < s.size then (if badN s i = true then some i else rcheck s f (i + rlong s i)) else none
theorem rcheck_end (s : ByteArray) (f i : Nat) (h : ¬ i < s.size) : rcheck s f i = none := by
 cases f with
 | zero => rfl
 | succ f => simp [rcheck, h]
theorem rcheck_bad {s : ByteArray} {f i : Nat} (h : i < s.size) (hb : badN s i = true) : rcheck s (f + 1) i = some i := by rw [rcheck, if_pos h, if_pos hb]
theorem rcheck_next {s : ByteArray} {f i : Nat} (h : i < s.size) (hb : badN s i = false) : rcheck s (f + 1) i = rcheck s f (i + rlong s i) := by rw [rcheck, if_pos h, if_neg (by rw [hb]; decide)]
def runE (s : ByteArray) (k : Int) : Nat → Nat → Nat
 | 0, i => i
 | f + 1, i => if i < s.size ∧ bk (bt s i) = k then runE s k f (i + 1) else i
theorem runE_fuel (s : ByteArray) (k : Int) : ∀ (f g i : Nat), s.size ≤ i + f → s.size ≤ i + g → runE s k f i = runE s k g i
 | 0, 0, i, _, _ => rfl
 | 0, g + 1, i, h, _ => by rw [runE, runE, if_neg (by omega)]
 | f + 1, 0, i, _, h => by rw [runE, runE, if_neg (by omega)]
 | f + 1, g + 1, i, h1, h2 => by
  rw [runE, runE]
  split
  ·exact runE_fuel s k f g (i + 1) (by omega) (by omega)
  ·rfl
def runEnd (s : ByteArray) (k : Int) (i : Nat) : Nat := runE s k s.size i
theorem runEnd_next {s : ByteArray} {k : Int} {i : Nat} (h : i < s.size) (hk : bk (bt s i) = k) : runEnd s k i = runEnd s k (i + 1) := by
 unfold runEnd
 rw [runE_fuel s k s.size (s.size + 1) i (by omega) (by omega), runE, if_pos ⟨h, hk⟩]
theorem runEnd_stop {s : ByteArray} {k : Int} {i : Nat} (h : ¬ (i < s.size ∧ bk (bt s i) = k)) : runEnd s k i = i := by
 unfold runEnd
 rw [runE_fuel s k s.size (s.size + 1) i (by omega) (by omega), runE, if_neg h]
theorem runEnd_many {s : ByteArray} {k : Int} {i : Nat} : ∀ n, (∀ j, j < n → i + j < s.size ∧ bk (bt s (i + j)) = k) → runEnd s k i = runEnd s k (i + n)
 | 0, _ => rfl
 | n + 1, h => by
  rw [runEnd_many n (fun j hj => h j (by omega))]
  have := h n (by omega)
  rw [runEnd_next this.1 this.2]
  rfl
theorem runEnd_ge (s : ByteArray) (k : Int) : ∀ (f i : Nat), i ≤ runE s k f i ∧ (i ≤ s.size → runE s k f i ≤ s.size)
 | 0, i => ⟨Nat.le_refl _, fun h => h⟩
 | f + 1, i => by
  rw [runE]
  split
  ·rename_i c
   have := runEnd_ge s k f (i + 1)
   exact ⟨by omega, fun _ => this.2 (by omega)⟩
  ·exact ⟨Nat.le_refl _, fun h => h⟩
theorem runEnd_at (s : ByteArray) (k : Int) : ∀ (n i : Nat), s.size ≤ i + n → ¬ (runEnd s k i < s.size ∧ bk (bt s (runEnd s k i)) = k)
 | 0, i, h => by rw [runEnd_stop (by omega)]; omega
 | n + 1, i, h => by
  by_cases c : i < s.size ∧ bk (bt s i) = k
  ·rw [runEnd_next c.1 c.2]; exact runEnd_at s k n (i + 1) (by omega)
  ·rw [runEnd_stop c]; exact c
def rparts (s : ByteArray) : Nat → Nat → List Prt → List Prt
 | 0, _, l => l
 | f + 1, i, l =>
  if i < s.size then
   if bk (bt s i) = 0 then rparts s f (i + 1) l
   else if bk (bt s i) = 3 then rparts s f (i + 1) (l ++ [(3, i, i + 1)])
   else rparts s f (runEnd s (bk (bt s i)) i) (l ++ [(bk (bt s i), i, runEnd s (bk (bt s i)) i)])
  else l
theorem rparts_end (s : ByteArray) (f i : Nat) (l : List Prt) (h : ¬ i < s.size) : rparts s f i l = l := by
 cases f with
 | zero => rfl
 | succ f => simp [rparts, h]
theorem split_bad (s : ByteArray) : ∀ (f pos : Nat) (l : List Prt) (a : Int), (∀ i, rcheck s f pos = some i → splitF s f pos l a = .inl i) ∧ (rcheck s f pos = none → ∃ m, splitF s f pos l a = .inr m)
 | 0, pos, l, a => ⟨fun i h => by simp [rcheck] at h, fun _ => ⟨l, rfl⟩⟩
 | f + 1, pos, l, a => by
  by_cases hp : pos < s.size
  ·obtain ⟨k1, k2⟩ := bad_kind s pos hp
   cases hb : badN s pos with
   | true =>
    rw [rcheck_bad hp hb, splitF_wrong hp (k1.1 hb)]
    exact ⟨fun i h => by rw [Option.some.injEq] at h; rw [h], fun h => by simp at h⟩
   | false =>
    obtain ⟨q1, q2⟩ := k2 hb
    rw [rcheck_next hp hb, q2]
    have hn : kindP s pos ≠ -1 := fun q => by rw [k1.2 q] at hb; exact absurd hb (by decide)
    rw [splitF, if_pos hp, if_neg hn]
    split
    ·exact split_bad s f _ _ _
    ·split
     ·exact split_bad s f _ _ _
     ·exact split_bad s f _ _ _
  ·rw [rcheck_end _ _ _ hp, splitF_end _ _ _ _ _ hp]
   exact ⟨fun i h => by simp at h, fun _ => ⟨l, rfl⟩⟩
theorem split_run (s : ByteArray) (k : Int) (hk : k = 1 ∨ k = 2) (l : List Prt) (x : Nat) : ∀ (f pos : Nat), pos ≤ s.size → s.size ≤ pos + f → rcheck s f pos = none →
  ∃ f', s.size ≤ runEnd s k pos + f' ∧ f' ≤ f ∧ rcheck s f' (runEnd s k pos) = none ∧ splitF s f pos (l ++ [(k, x, pos)]) k = splitF s f' (runEnd s k pos) (l ++ [(k, x, runEnd s k pos)]) k
 | 0, pos, h1, h2, hc => by
  rw [runEnd_stop (by omega)]
  exact ⟨0, h2, Nat.le_refl _, hc, rfl⟩
 | f + 1, pos, h1, h2, hc => by
  by_cases c : pos < s.size ∧ bk (bt s pos) = k
  ·obtain ⟨hp, ck⟩ := c
   obtain ⟨k1, k2⟩ := bad_kind s pos hp
   cases hb : badN s pos with
   | true => rw [rcheck_bad hp hb] at hc; exact absurd hc (by simp)
   | false =>
    obtain ⟨q1, q2⟩ := k2 hb
    rw [rcheck_next hp hb, q2] at hc
    have hw := wd_pos s pos
    have hl := wd_le s pos hp
    have hm : runEnd s k pos = runEnd s k (pos + (Utf8.decode s pos).2) := by
     apply runEnd_many
     intro j hj
     refine ⟨by omega, ?_⟩
     rcases dec_shape s pos hp with ⟨c, e⟩ | ⟨c, e⟩ | ⟨c, d1, d2, d3, d4, d5, d6⟩
     ·rw [e] at hj
      obtain rfl : j = 0 := by simp only at hj; omega
      exact ck
     ·rw [e] at hj
      obtain rfl : j = 0 := by simp only at hj; omega
      exact ck
     ·by_cases z : j = 0
      ·subst z; exact ck
      ·rw [bk_hi _ (d5 j (by omega) hj), ← ck, bk_hi _ c]
    rw [hm, splitF_more hp (by rw [q1, ck]; omega) (by rw [q1, ck]; omega) (by rw [q1, ck]; omega) (by rw [q1, ck])]
    obtain ⟨f', g1, g2, g3, g4⟩ := split_run s k hk l x f (pos + (Utf8.decode s pos).2) hl (by omega) hc
    exact ⟨f', g1, by omega, g3, g4⟩
  ·rw [runEnd_stop c]
   exact ⟨f + 1, h2, Nat.le_refl _, hc, rfl⟩
theorem split_parts (s : ByteArray) : ∀ (n f g pos : Nat) (l : List Prt) (a : Int), s.size - pos ≤ n → pos ≤ s.size → s.size ≤ pos + f → s.size ≤ pos + g → rcheck s f pos = none →
  (pos < s.size → bk (bt s pos) ≠ 0 → bk (bt s pos) = 3 ∨ bk (bt s pos) ≠ a) → splitF s f pos l a = .inr (rparts s g pos l)
 | 0, f, g, pos, l, a, h0, h1, h2, h3, hc, ha => by
  rw [splitF_end _ _ _ _ _ (by omega), rparts_end _ _ _ _ (by omega)]
 | n + 1, f, g, pos, l, a, h0, h1, h2, h3, hc, ha => by
  by_cases hp : pos < s.size
  ·obtain ⟨f, rfl⟩ : ∃ f', f = f' + 1 := ⟨f - 1, by omega⟩
   obtain ⟨g, rfl⟩ : ∃ g', g = g' + 1 := ⟨g - 1, by omega⟩
   obtain ⟨k1, k2⟩ := bad_kind s pos hp
   cases hb : badN s pos with
   | true => rw [rcheck_bad hp hb] at hc; exact absurd hc (by simp)
   | false =>
    obtain ⟨q1, q2⟩ := k2 hb
    have hc0 := hc
    rw [rcheck_next hp hb, q2] at hc
    have hw := wd_pos s pos
    have hl := wd_le s pos hp
    have one : bk (bt s pos) ≠ 2 → (Utf8.decode s pos).2 = 1 := by
     intro z
     rcases dec_shape s pos hp with ⟨c, e⟩ | ⟨c, e⟩ | ⟨c, _⟩
     ·rw [e]
     ·rw [e]
     ·exact absurd (bk_hi _ c) z
    have hn : kindP s pos ≠ -1 := fun q => by rw [k1.2 q] at hb; exact absurd hb (by decide)
    rw [rparts, if_pos hp]
    by_cases z0 : bk (bt s pos) = 0
    ·rw [if_pos z0, splitF_blank hp (by rw [q1, z0])]
     rw [one (by omega)] at hc hl ⊢
     exact split_parts s n f g (pos + 1) l 0 (by omega) hl (by omega) (by omega) hc (fun _ z => .inr z)
    ·rw [if_neg z0]
     by_cases z3 : bk (bt s pos) = 3
     ·rw [if_pos z3, splitF_new hp hn (by rw [q1]; exact z0) (.inl (by rw [q1, z3])), q1, z3]
      rw [one (by omega)] at hc hl ⊢
      refine split_parts s n f g (pos + 1) _ 3 (by omega) hl (by omega) (by omega) hc (fun _ z => ?_)
      by_cases y : bk (bt s (pos + 1)) = 3
      ·exact .inl y
      ·exact .inr y
     ·rw [if_neg z3, splitF_new hp hn (by rw [q1]; exact z0) (by rw [q1]; exact ha hp z0), q1]
      have hk : bk (bt s pos) = 1 ∨ bk (bt s pos) = 2 := by
       have := bk_range (bt s pos)
       omega
      obtain ⟨k, ek⟩ : ∃ k, bk (bt s pos) = k := ⟨_, rfl⟩
      rw [ek] at hk z0 z3 ⊢
      have hm : runEnd s k pos = runEnd s k (pos + (Utf8.decode s pos).2) := by
       apply runEnd_many
       intro j hj
       refine ⟨by omega, ?_⟩
       rcases dec_shape s pos hp with ⟨c, e⟩ | ⟨c, e⟩ | ⟨c, d1, d2, d3, d4, d5, d6⟩
       ·rw [e] at hj
        obtain rfl : j = 0 := by simp only at hj; omega
        exact ek
       ·rw [e] at hj
        obtain rfl : j = 0 := by simp only at hj; omega
        exact ek
       ·by_cases z : j = 0
        ·subst z; exact ek
        ·rw [bk_hi _ (d5 j (by omega) hj), ← ek, bk_hi _ c]
      rw [hm]
      obtain ⟨f', g1, g2, g3, g4⟩ := split_run s k hk l pos f (pos + (Utf8.decode s pos).2) hl (by omega) hc
      rw [g4]
      have ge := runEnd_ge s k s.size (pos + (Utf8.decode s pos).2)
      change _ ≤ runEnd s k _ ∧ (_ → runEnd s k _ ≤ _) at ge
      have hat := runEnd_at s k s.size (pos + (Utf8.decode s pos).2) (by omega)
      exact split_parts s n f' g _ _ k (by omega) (ge.2 hl) g1 (by omega) g3 (fun y1 y2 => .inr (fun y3 => hat ⟨y1, y3⟩))
  ·rw [splitF_end _ _ _ _ _ hp, rparts_end _ _ _ _ hp]
theorem splitB_bad {s : ByteArray} {i : Nat} (h : rcheck s s.size 0 = some i) : splitB s = .inl i := (split_bad s s.size 0 [] 0).1 i h
theorem splitB_good {s : ByteArray} (h : rcheck s s.size 0 = none) : splitB s = .inr (rparts s s.size 0 []) :=
 split_parts s s.size s.size s.size 0 [] 0 (by omega) (by omega) (by omega) (by omega) h (fun _ z => .inr z)
def Cov (s : ByteArray) : Nat → List Prt → Nat → Prop
 | at_, [], to => at_ ≤ to ∧ to ≤ s.size ∧ ∀ j, at_ ≤ j → j < to → blankN (bt s j) = true
 | at_, p :: l, to => at_ ≤ p.2.1 ∧ p.2.1 < p.2.2 ∧ p.2.2 ≤ s.size ∧ (∀ j, at_ ≤ j → j < p.2.1 → blankN (bt s j) = true) ∧ Cov s p.2.2 l to
theorem Cov_snoc (s : ByteArray) (k : Int) (x e to : Nat) : ∀ (l : List Prt) (a : Nat), Cov s a (l ++ [(k, x, e)]) to ↔ Cov s a l x ∧ x < e ∧ e ≤ s.size ∧ Cov s e [] to
 | [], a => by
  simp only [List.nil_append, Cov]
  exact ⟨fun ⟨h1, h2, h3, h4, h5⟩ => ⟨⟨h1, by omega, h4⟩, h2, h3, h5⟩, fun ⟨⟨h1, _, h4⟩, h2, h3, h5⟩ => ⟨h1, h2, h3, h4, h5⟩⟩
 | p :: l, a => by
  simp only [List.cons_append, Cov]
  rw [Cov_snoc s k x e to l p.2.2]
  simp only [Cov]
  exact ⟨fun ⟨h1, h2, h3, h4, h5, h6, h7, h8⟩ => ⟨⟨h1, h2, h3, h4, h5⟩, h6, h7, h8⟩, fun ⟨⟨h1, h2, h3, h4, h5⟩, h6, h7, h8⟩ => ⟨h1, h2, h3, h4, h5, h6, h7, h8⟩⟩
theorem Cov_more (s : ByteArray) (to n : Nat) (hn : n ≤ s.size) (hl : to ≤ n) (hb : ∀ j, to ≤ j → j < n → blankN (bt s j) = true) : ∀ (l : List Prt) (a : Nat), Cov s a l to → Cov s a l n
 | [], a, ⟨h1, h2, h3⟩ => ⟨by omega, hn, fun j h4 h5 => by
   by_cases c : j < to
   ·exact h3 j h4 c
   ·exact hb j (by omega) h5⟩
 | p :: l, a, ⟨h1, h2, h3, h4, h5⟩ => ⟨h1, h2, h3, h4, Cov_more s to n hn hl hb l p.2.2 h5⟩
theorem Cov_length (s : ByteArray) : ∀ (l : List Prt) (a to : Nat), Cov s a l to → l.length + a ≤ to
 | [], a, to, ⟨h1, _, _⟩ => by simp; exact h1
 | p :: l, a, to, ⟨h1, h2, h3, h4, h5⟩ => by
  have := Cov_length s l _ _ h5
  simp only [zl]; omega
theorem Cov_to (s : ByteArray) : ∀ (l : List Prt) (a to : Nat), Cov s a l to → to ≤ s.size
 | [], a, to, ⟨h1, h2, _⟩ => h2
 | p :: l, a, to, ⟨h1, h2, h3, h4, h5⟩ => Cov_to s l _ _ h5
def Lst (l : List Prt) (pos : Nat) (a : Int) : Prop := a = 0 ∨ ∃ l' k x, l = l' ++ [(k, x, pos)]
theorem blank_one (s : ByteArray) (pos : Nat) (h : pos < s.size) (hk : kindP s pos = 0) : blankN (bt s pos) = true ∧ (Utf8.decode s pos).2 = 1 := by
 obtain ⟨k1, k2⟩ := bad_kind s pos h
 cases hb : badN s pos with
 | true => rw [k1.1 hb] at hk; exact absurd hk (by decide)
 | false =>
  have q := (k2 hb).1
  rw [hk] at q
  refine ⟨(bk_blank _).2 q.symm, ?_⟩
  rcases dec_shape s pos h with ⟨c, e⟩ | ⟨c, e⟩ | ⟨c, _⟩
  ·rw [e]
  ·rw [e]
  ·rw [bk_hi _ c] at q; exact absurd q (by decide)
theorem Cov_blank {s : ByteArray} {pos : Nat} {l : List Prt} (h : pos < s.size) (hk : kindP s pos = 0) (hC : Cov s 0 l pos) : Cov s 0 l (pos + (Utf8.decode s pos).2) := by
 obtain ⟨b1, b2⟩ := blank_one s pos h hk
 rw [b2]
 refine Cov_more s pos (pos + 1) (by omega) (by omega) (fun j h1 h2 => ?_) l 0 hC
 obtain rfl : j = pos := by omega
 exact b1
theorem Cov_new {s : ByteArray} {pos : Nat} {l : List Prt} (k : Int) (h : pos < s.size) (hC : Cov s 0 l pos) : Cov s 0 (l ++ [(k, pos, pos + (Utf8.decode s pos).2)]) (pos + (Utf8.decode s pos).2) := by
 have hw := wd_pos s pos
 have hl := wd_le s pos h
 exact (Cov_snoc s k pos _ _ l 0).2 ⟨hC, by omega, hl, Nat.le_refl _, hl, fun j h1 h2 => by omega⟩
theorem Cov_ext {s : ByteArray} {pos : Nat} {l : List Prt} {k : Int} {x : Nat} (h : pos < s.size) (hC : Cov s 0 (l ++ [(k, x, pos)]) pos) : Cov s 0 (l ++ [(k, x, pos + (Utf8.decode s pos).2)]) (pos + (Utf8.decode s pos).2) := by
 have hw := wd_pos s pos
 have hl := wd_le s pos h
 obtain ⟨h1, h2, h3, h4⟩ := (Cov_snoc s k x pos pos l 0).1 hC
 exact (Cov_snoc s k x _ _ l 0).2 ⟨h1, by omega, hl, Nat.le_refl _, hl, fun j h1 h2 => by omega⟩
theorem split_cov (s : ByteArray) : ∀ (f pos : Nat) (l : List Prt) (a : Int) (m : List Prt), s.size ≤ pos + f → Cov s 0 l pos → Lst l pos a → splitF s f pos l a = .inr m → Cov s 0 m s.size
 | 0, pos, l, a, m, hf, hC, hL, h => by
  simp only [splitF, Sum.inr.injEq] at h; subst h
  obtain rfl : pos = s.size := by have := Cov_to s _ _ _ hC; omega
  exact hC
 | f + 1, pos, l, a, m, hf, hC, hL, h => by
  by_cases hp : pos < s.size
  ·have hw := wd_pos s pos
   by_cases c1 : kindP s pos = -1
   ·rw [splitF_wrong hp c1] at h; exact absurd h (by simp)
   ·by_cases c0 : kindP s pos = 0
    ·rw [splitF_blank hp c0] at h
     exact split_cov s f _ _ _ _ (by omega) (Cov_blank hp c0 hC) (.inl rfl) h
    ·by_cases cn : kindP s pos = 3 ∨ kindP s pos ≠ a
     ·rw [splitF_new hp c1 c0 cn] at h
      exact split_cov s f _ _ _ _ (by omega) (Cov_new _ hp hC) (.inr ⟨_, _, _, rfl⟩) h
     ·rcases hL with hL | ⟨l', k, x, rfl⟩
      ·exfalso; apply cn; right; rw [hL]; exact c0
      ·rw [splitF_more hp c1 c0 (fun q => cn (.inl q)) (by
        by_cases z : kindP s pos = a
        ·exact z
        ·exact absurd (.inr z) cn)] at h
       exact split_cov s f _ _ _ _ (by omega) (Cov_ext hp hC) (.inr ⟨_, _, _, rfl⟩) h
  ·rw [splitF_end _ _ _ _ _ hp] at h
   simp only [Sum.inr.injEq] at h; subst h
   obtain rfl : pos = s.size := by have := Cov_to s _ _ _ hC; omega
   exact hC
theorem splitB_cov {s : ByteArray} {m : List Prt} (h : splitB s = .inr m) : Cov s 0 m s.size :=
 split_cov s s.size 0 [] 0 m (by omega) ⟨Nat.le_refl _, Nat.zero_le _, fun j h1 h2 => by omega⟩ (.inl rfl) h
theorem bt_left (a c : ByteArray) (i : Nat) (h : i < a.size) : bt (a ++ c) i = bt a i := by
 unfold bt
 rw [get_lt (a ++ c) i (by rw [ByteArray.size_append]; omega), get_lt a i h, ByteArray.getElem_append_left]
theorem bt_beyond (a : ByteArray) (i : Nat) (h : ¬ i < a.size) : bt a i = 0 := by
 unfold bt
 show (a.data[i]!).toNat = 0
 rw [getElem!_neg a.data i h]
 rfl
theorem decode_left (a c : ByteArray) (pos : Nat) (h : pos < a.size) (hk : kindP a pos ≠ -1) : Utf8.decode (a ++ c) pos = Utf8.decode a pos := by
 have e1 := Lib.decode_at a pos
 have e2 := Lib.decode_at (a ++ c) pos
 change Utf8.decode a pos = Lib.decodeN (a.size - pos) (bt a pos) (bt a (pos + 1)) (bt a (pos + 2)) (bt a (pos + 3)) at e1
 change Utf8.decode (a ++ c) pos = Lib.decodeN ((a ++ c).size - pos) (bt (a ++ c) pos) (bt (a ++ c) (pos + 1)) (bt (a ++ c) (pos + 2)) (bt (a ++ c) (pos + 3)) at e2
 have hz : a.size ≤ (a ++ c).size := by rw [ByteArray.size_append]; omega
 rw [bt_left a c pos h] at e2
 rw [e2]
 rcases Lib.decodeN_shape (a.size - pos) (bt a pos) (bt a (pos + 1)) (bt a (pos + 2)) (bt a (pos + 3)) with ⟨q1, q⟩ | ⟨c1, c2, c3, cv, q⟩ | ⟨c1, c2, c3, c4, cv, cs, q⟩ | ⟨c1, c2, c3, c4, c5, cv, cw, q⟩ | q
 ·rw [e1, q]; unfold Lib.decodeN; rw [if_pos q1]
 ·rw [e1, q, bt_left a c (pos + 1) (by omega)]
  unfold Lib.decodeN
  rw [if_neg (by omega), if_pos ⟨c1, by omega, c3⟩, if_pos cv]
 ·rw [e1, q, bt_left a c (pos + 1) (by omega), bt_left a c (pos + 2) (by omega)]
  unfold Lib.decodeN
  rw [if_neg (by omega), if_neg (by omega), if_pos ⟨c1, ⟨by omega, c3⟩, by omega, c4⟩, if_pos ⟨cv, by have := (UInt8.toNat_lt (a.get! pos)); have : bt a pos < 256 := this; omega⟩]
 ·rw [e1, q, bt_left a c (pos + 1) (by omega), bt_left a c (pos + 2) (by omega), bt_left a c (pos + 3) (by omega)]
  unfold Lib.decodeN
  rw [if_neg (by omega), if_neg (by omega), if_neg (by omega), if_pos ⟨c1, ⟨by omega, c3⟩, ⟨by omega, c4⟩, by omega, c5⟩, if_pos ⟨cv, by omega⟩]
 ·exfalso
  apply hk
  rw [q] at e1
  unfold kindP
  rw [e1]
  rfl
theorem kind_left (a c : ByteArray) (pos : Nat) (h : pos < a.size) (hk : kindP a pos ≠ -1) : kindP (a ++ c) pos = kindP a pos := by
 unfold kindP; rw [decode_left a c pos h hk]
theorem split_left (a c : ByteArray) : ∀ (f F pos : Nat) (l : List Prt) (k : Int) (m : List Prt), pos ≤ a.size → a.size ≤ pos + f → (a ++ c).size ≤ pos + F → splitF a f pos l k = .inr m →
  ∃ F' k', (a ++ c).size ≤ a.size + F' ∧ splitF (a ++ c) F pos l k = splitF (a ++ c) F' a.size m k'
 | 0, F, pos, l, k, m, h0, h1, h2, h => by
  simp only [splitF, Sum.inr.injEq] at h; subst h
  obtain rfl : pos = a.size := by omega
  exact ⟨F, k, h2, rfl⟩
 | f + 1, F, pos, l, k, m, h0, h1, h2, h => by
  by_cases hp : pos < a.size
  ·have hz : a.size ≤ (a ++ c).size := by rw [ByteArray.size_append]; omega
   obtain ⟨F, rfl⟩ : ∃ F', F = F' + 1 := ⟨F - 1, by omega⟩
   have hw := wd_pos a pos
   have hl := wd_le a pos hp
   by_cases c1 : kindP a pos = -1
   ·rw [splitF_wrong hp c1] at h; exact absurd h (by simp)
   ·have hd := decode_left a c pos hp c1
    have hk := kind_left a c pos hp c1
    rw [splitF, if_pos hp, if_neg c1] at h
    rw [splitF, if_pos (by omega), hk, if_neg c1, hd]
    split at h
    ·rename_i z; rw [if_pos z]; exact split_left a c f F _ _ _ m hl (by omega) (by omega) h
    ·rename_i z; rw [if_neg z]
     split at h
     ·rename_i y; rw [if_pos y]; exact split_left a c f F _ _ _ m hl (by omega) (by omega) h
     ·rename_i y; rw [if_neg y]; exact split_left a c f F _ _ _ m hl (by omega) (by omega) h
  ·rw [splitF_end _ _ _ _ _ hp] at h
   simp only [Sum.inr.injEq] at h; subst h
   obtain rfl : pos = a.size := by omega
   exact ⟨F, k, h2, rfl⟩
theorem bt_right (a c : ByteArray) (i : Nat) : bt (a ++ c) (a.size + i) = bt c i := by
 by_cases h : i < c.size
 ·unfold bt
  rw [get_lt (a ++ c) (a.size + i) (by rw [ByteArray.size_append]; omega), get_lt c i h, ByteArray.getElem_append_right (by omega)]
  simp
 ·rw [bt_beyond c i h, bt_beyond (a ++ c) _ (by rw [ByteArray.size_append]; omega)]
theorem decode_right (a c : ByteArray) (pos : Nat) : Utf8.decode (a ++ c) (a.size + pos) = Utf8.decode c pos := by
 have e1 := Lib.decode_at c pos
 have e2 := Lib.decode_at (a ++ c) (a.size + pos)
 change Utf8.decode c pos = Lib.decodeN (c.size - pos) (bt c pos) (bt c (pos + 1)) (bt c (pos + 2)) (bt c (pos + 3)) at e1
 change Utf8.decode (a ++ c) (a.size + pos) = Lib.decodeN ((a ++ c).size - (a.size + pos)) (bt (a ++ c) (a.size + pos)) (bt (a ++ c) (a.size + (pos + 1))) (bt (a ++ c) (a.size + (pos + 2))) (bt (a ++ c) (a.size + (pos + 3))) at e2
 rw [e1, e2, bt_right, bt_right, bt_right, bt_right, ByteArray.size_append, show a.size + c.size - (a.size + pos) = c.size - pos by omega]
theorem kind_right (a c : ByteArray) (pos : Nat) : kindP (a ++ c) (a.size + pos) = kindP c pos := by unfold kindP; rw [decode_right]
def sh (n : Nat) (p : Prt) : Prt := (p.1, n + p.2.1, n + p.2.2)
theorem split_right (a c : ByteArray) (L : List Prt) : ∀ (f F pos : Nat) (l : List Prt) (k : Int) (m : List Prt), c.size ≤ pos + f → c.size ≤ pos + F → (k = 0 ∨ l ≠ []) → splitF c f pos l k = .inr m →
  splitF (a ++ c) F (a.size + pos) (L ++ l.map (sh a.size)) k = .inr (L ++ m.map (sh a.size))
 | 0, F, pos, l, k, m, h1, h2, hl, h => by
  simp only [splitF, Sum.inr.injEq] at h; subst h
  rw [splitF_end _ _ _ _ _ (by rw [ByteArray.size_append]; omega)]
 | f + 1, F, pos, l, k, m, h1, h2, hl, h => by
  by_cases hp : pos < c.size
  ·obtain ⟨F, rfl⟩ : ∃ F', F = F' + 1 := ⟨F - 1, by omega⟩
   have hw := wd_pos c pos
   rw [splitF, if_pos (by rw [ByteArray.size_append]; omega), kind_right, decode_right]
   by_cases c1 : kindP c pos = -1
   ·rw [splitF_wrong hp c1] at h; exact absurd h (by simp)
   ·rw [if_neg c1]
    by_cases c0 : kindP c pos = 0
    ·rw [splitF_blank hp c0] at h
     rw [if_pos c0, Nat.add_assoc]
     exact split_right a c L f F _ _ _ m (by omega) (by omega) (.inl rfl) h
    ·rw [if_neg c0]
     by_cases cn : kindP c pos = 3 ∨ kindP c pos ≠ k
     ·rw [splitF_new hp c1 c0 cn] at h
      rw [if_pos cn, Nat.add_assoc, List.append_assoc]
      have := split_right a c L f F _ _ _ m (by omega) (by omega) (.inr (by simp)) h
      rw [List.map_append] at this
      exact this
     ·have hk : kindP c pos = k := by
       by_cases z : kindP c pos = k
       ·exact z
       ·exact absurd (.inr z) cn
      have hne : l ≠ [] := by
       rcases hl with z | z
       ·exfalso; rw [z] at hk; exact c0 hk
       ·exact z
      obtain ⟨l', ⟨q, x, y⟩, rfl⟩ : ∃ l' p, l = l' ++ [p] := ⟨l.dropLast, l.getLast hne, (List.dropLast_concat_getLast hne).symm⟩
      rw [splitF_more hp c1 c0 (fun z => cn (.inl z)) hk] at h
      rw [if_neg cn, Nat.add_assoc, hk]
      have e : (L ++ (l' ++ [(q, x, y)]).map (sh a.size)) = (L ++ l'.map (sh a.size)) ++ [sh a.size (q, x, y)] := by simp
      rw [e]
      simp only [List.dropLast_concat, List.getLast?_concat, Option.getD_some]
      have := split_right a c L f F _ _ _ m (by omega) (by omega) (.inr (by simp)) h
      rw [List.map_append, ← List.append_assoc] at this
      exact this
  ·rw [splitF_end _ _ _ _ _ hp] at h
   simp only [Sum.inr.injEq] at h; subst h
   rw [splitF_end _ _ _ _ _ (by rw [ByteArray.size_append]; omega)]
def findF (P : ByteArray → Bool) : Nat → List ByteArray → Int
 | _, [] => -1
 | i, t :: l => if P t = true then (i : Int) else findF P (i + 1) l
theorem findF_step {P : ByteArray → Bool} {l : List ByteArray} {i : Nat} {t : ByteArray} (h : l[i]? = some t) : findF P i (l.drop i) = if P t = true then (i : Int) else findF P (i + 1) (l.drop (i + 1)) := by
 obtain ⟨hl, he⟩ := List.getElem?_eq_some_iff.1 h
 rw [List.drop_eq_getElem_cons hl, he]
 rfl
theorem findF_end {P : ByteArray → Bool} {l : List ByteArray} {i : Nat} (h : ¬ i < l.length) : findF P i (l.drop i) = -1 := by
 rw [List.drop_of_length_le (by omega)]; rfl
def sameB (a b : ByteArray) : Bool := decide (lowB a = lowB b)
def knownB (s : ByteArray) (l : List ByteArray) : Int := findF (fun t => sameB s t) 0 l
end Go.Proofs.YtaoocecipacnhaaDoor
namespace Go.Proofs.YtaoocecipacnhaaDoor
open Go.RowKit
def Buf (w : World) (g : Nat) (l : List UInt8) : Prop := g < w.heap.size ∧ ∀ j c, l[j]? = some c → w.cell? ⟨g, j, none⟩ = some (.int .u8 (c.toNat : Int)) ∧ w.frozen? ⟨g, j, none⟩ = false
theorem Buf.keep {w w1 : World} {g : Nat} {l : List UInt8} (h : Buf w g l) (hb : w1.heap[g]? = w.heap[g]?) (hz : w.heap.size ≤ w1.heap.size) : Buf w1 g l :=
 ⟨Nat.lt_of_lt_of_le h.1 hz, fun j c hc => ⟨(World.cell?_of_block (a := ⟨g, j, none⟩) hb).trans (h.2 j c hc).1, (World.frozen?_of_block (a := ⟨g, j, none⟩) hb).trans (h.2 j c hc).2⟩⟩
theorem addr_ne' {b i j : Nat} (h : i ≠ j) : (⟨b, i, none⟩ : Addr) ≠ ⟨b, j, none⟩ := fun e => h (by cases e; rfl)
theorem Buf.set {w : World} {g : Nat} {l : List UInt8} (h : Buf w g l) {pos : Nat} {c : UInt8} (d : UInt8) (hc : l[pos]? = some c) : Buf (w.setCell ⟨g, pos, none⟩ (.int .u8 (d.toNat : Int))) g (l.set pos d) := by
 refine ⟨by simpa [World.setCell] using h.1, fun j x hx => ?_⟩
 rw [List.getElem?_set] at hx
 by_cases e : pos = j
 ·subst e
  rw [if_pos rfl, if_pos (List.getElem?_eq_some_iff.1 hc).1] at hx
  simp only [Option.some.injEq] at hx
  subst hx
  exact ⟨World.cell?_setCell_same _ _ _ (h.2 pos c hc).1, by simpa using (h.2 pos c hc).2⟩
 ·rw [if_neg e] at hx
  exact ⟨(World.cell?_setCell_other _ _ _ _ (addr_ne' e)).trans (h.2 j x hx).1, by simpa using (h.2 j x hx).2⟩
theorem bytesRow_get (s : ByteArray) (cap j : Nat) (c : UInt8) (h : s.data.toList[j]? = some c) : (bytesRow s cap)[j]? = some (.int .u8 (c.toNat : Int)) ∧ j < (bytesRow s cap).size := by
 have hj : j < s.data.size := by have := (List.getElem?_eq_some_iff.1 h).1; simpa using this
 have e := bytesRow_at s cap j hj
 have hc : s.data[j] = c := by have := (List.getElem?_eq_some_iff.1 h).2; simpa using this
 rw [hc] at e
 exact ⟨e, (Array.getElem?_eq_some_iff.1 e).1⟩
theorem Buf.new (w : World) (s : ByteArray) (cap : Nat) (t : TypeId) : Buf (w.drew.alloc (.cells (bytesRow s cap) t ((bytesRow s cap).size, (bytesRow s cap).size + 1))) w.heap.size s.data.toList := by
 refine ⟨by simp, fun j c hc => ?_⟩
 obtain ⟨e, hj⟩ := bytesRow_get s cap j c hc
 refine ⟨(World.cell?_alloc_mark w.drew _ t _ j).trans e, (World.frozen?_alloc_mark w.drew _ t _ _ j).trans ?_⟩
 simp; omega
theorem iterPos_eq {w : World} {k : Nat} {s : ByteArray} {p : Nat} (h : w.heap[k]? = some (.stringIter s p)) : w.iterPos k = p := by simp [World.iterPos, h]
theorem lower_any (s : ByteArray) (hs : s.size ≤ maxLen) (w : World) :
    Calls Tryd.prog 49 #[vS s] w fun e w' => e = zr (vS (lowB s)) ∧ Below w.heap.size w w' := by
  unfold maxLen at hs
  have hcv : ∀ w0 : World, (convert 9 62 (vS s)).run Tryd.prog w0 = _ := fun w0 => run_bytes_of_string (P := Tryd.prog) w0 9 62 5 s Tryd.underlying9 Tryd.underlying62 Tryd.underlying5
  obtain ⟨cap, hcap⟩ : ∃ cap, cap = grownCap w s.size 0 5 := ⟨_, rfl⟩
  obtain ⟨W0, hW0⟩ : ∃ W0, W0 = w.drew.alloc (.cells (bytesRow s cap) 5 ((bytesRow s cap).size, (bytesRow s cap).size + 1)) := ⟨_, rfl⟩
  have hz0 : W0.heap.size = w.heap.size + 1 := by rw [hW0]; simp
  have B0 : Below w.heap.size w W0 := by rw [hW0]; exact (Below.refl _ _).drew.alloc (by simp) _
  have F0 : Buf W0 w.heap.size s.data.toList := by rw [hW0]; exact Buf.new w s cap 5
  have hcv0 := hcv w
  rw [← hcap, ← hW0] at hcv0
  clear hcv hW0 hcap
  go_enter Tryd.func49, Tryd.ntmps49
  go_wp2_with fail
  go_loopw [] (fun wr => ∃ pos : Nat, pos ≤ s.size ∧ wr.heap[w.heap.size + 1]? = some (.stringIter s pos) ∧ Buf wr w.heap.size (lowTo s pos) ∧ Below w.heap.size w wr) (fun wr => s.size - wr.iterPos (w.heap.size + 1))
  case atStart =>
    refine ⟨0, Nat.zero_le _, ?_, ?_, ?_⟩
    · have := World.iter_heap W0 s 0
      rw [hz0] at this
      exact this
    · rw [lowTo_zero]
      exact F0.keep (Below.heap_alloc _ _ _ (by omega)) (by simp [World.iter])
    · exact B0.alloc (by omega) _
  case round =>
    obtain ⟨pos, hle, hit, F, B⟩ := hrel
    have hpos0 := iterPos_eq hit
    clear B0 F0 hcv0 hz0
    by_cases hp : pos < s.size
    · have hnx : ∀ ty, (Instr.next (.pointer (some ⟨w.heap.size + 1, 0, none⟩)) true ty).run Tryd.prog wr = _ := fun ty => Lib.run_next_any_at wr (w.heap.size + 1) s pos ty hit hp
      have hwd := wd_pos s pos
      have hwl := wd_le s pos hp
      have hit2 := Lib.iterAt_heap wr (w.heap.size + 1) s pos (pos + (Utf8.decode s pos).2) hit
      have B2 := Lib.below_iterAt B (k := w.heap.size + 1) (by omega) s (pos + (Utf8.decode s pos).2)
      have F2 : Buf (wr.iterAt (w.heap.size + 1) s (pos + (Utf8.decode s pos).2)) w.heap.size (lowTo s pos) := F.keep (Lib.iterAt_other _ _ _ _ _ (by omega)) (by rw [Lib.iterAt_size]; exact Nat.le_refl _)
      clear F B hit
      obtain ⟨R, hR⟩ : ∃ R : Int, ((Utf8.decode s pos).1 : Int) = R := ⟨_, rfl⟩
      obtain ⟨W1, hW1⟩ : ∃ W1, W1 = wr.iterAt (w.heap.size + 1) s (pos + (Utf8.decode s pos).2) := ⟨_, rfl⟩
      rw [hR] at hnx
      rw [← hW1] at hnx hit2 B2 F2
      have R0 : 0 ≤ R := by omega
      have R1 : R ≤ 2147483647 := by have := decode_le s pos; omega
      clear hW1
      have HI := hZz hit2
      have HB := hZz B2
      have HF := hZz F2
      clear hit2 B2 F2
      by_cases hAZ : 65 ≤ R ∧ R ≤ 90
      · obtain ⟨c1, c2⟩ := hAZ
        obtain ⟨q1, q2, q3, q4, q5⟩ := lowTo_put s pos hp (by omega)
        have hcell : W1.cell? ⟨w.heap.size, pos, none⟩ = some (.int .u8 R) := by rw [(HF.out.2 pos _ q2).1, ← hR, q5]
        have hfz : W1.frozen? ⟨w.heap.size, pos, none⟩ = false := (HF.out.2 pos _ q2).2
        have HS : Hid (Buf (W1.setCell ⟨w.heap.size, pos, none⟩ (.int .u8 (R + 32))) w.heap.size (lowTo s (pos + (Utf8.decode s pos).2))) := by
          show Buf _ _ _
          rw [q3]
          have := HF.out.set (s[pos]'hp + 32) q2
          rw [q4] at this
          rw [← hR]
          exact this
        have hpi : (pos : Int) < (s.size : Int) := by omega
        clear hR q1 q2 q3 q4 q5 HF
        go_wp2_with fail
        go_roundw
        case rel =>
          refine ⟨pos + (Utf8.decode s pos).2, hwl, ?_, HS.out, HB.out.setCell (Nat.le_refl _) _⟩
          rw [Below.heap_setCell _ _ _ _ (by simp)]; exact HI.out
        case measure =>
          rw [hpos0, iterPos_eq (p := pos + (Utf8.decode s pos).2) (by rw [Below.heap_setCell _ _ _ _ (by simp)]; exact HI.out)]
          omega
      · have HS : Hid (Buf W1 w.heap.size (lowTo s (pos + (Utf8.decode s pos).2))) := by
          show Buf _ _ _
          rw [lowTo_skip s pos hp (by omega)]
          exact HF.out
        clear hR HF
        go_wp2_with fail
        all_goals first
          | (exfalso; omega)
          | (go_roundw
             case rel => exact ⟨pos + (Utf8.decode s pos).2, hwl, HI.out, HS.out, HB.out⟩
             case measure =>
               rw [hpos0, iterPos_eq HI.out]
               omega)
    · have hnx : ∀ ty, (Instr.next (.pointer (some ⟨w.heap.size + 1, 0, none⟩)) true ty).run Tryd.prog wr = _ := fun ty => Lib.run_next_end_at wr (w.heap.size + 1) s pos ty hit hp
      have hcb := run_convert_bytes_back (P := Tryd.prog) wr 62 9 5 ⟨w.heap.size, 0, none⟩ cap (lowTo s pos) Tryd.underlying62 Tryd.underlying5 Tryd.underlying9 (fun j hj => by
        have := (F.2 j _ (List.getElem?_eq_getElem hj)).1
        by_cases z : j = 0
        · subst z; simpa [Addr.add] using this
        · simpa [Addr.add, z] using this)
      rw [lowTo_length, lowTo_end s pos hp] at hcb
      have HB := hZz B
      clear F B hit
      go_wp2_with fail
      go_ret
      exact ⟨rfl, HB.out⟩
theorem toList_eq (a b : ByteArray) : (a.toList == b.toList) = decide (a = b) := by
 rw [Lib.toList_data, Lib.toList_data, Bool.eq_iff_iff, beq_iff_eq, decide_eq_true_eq]
 constructor
 ·intro h; cases a; cases b; exact congrArg ByteArray.mk (Array.toList_inj.1 h)
 ·intro h; rw [h]
theorem ret_bool {a b : Bool} (h : a = b) : Ending.returned (.bool a) = zr (.bool b) := by rw [h]
end Go.Proofs.YtaoocecipacnhaaDoor
