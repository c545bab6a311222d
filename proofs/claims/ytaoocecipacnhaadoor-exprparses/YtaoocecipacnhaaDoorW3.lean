import Derived.Test.YtaoocecipacnhaaDoorWz
import Derived.Test.YtaoocecipacnhaaDoorW0
import Derived.Test.YtaoocecipacnhaaDoorW2
import Derived.WalkKit
import Derived.ProofKit
import Derived.Deep.Cut
import Derived.Deep.CutRange
import Derived.Deep.DeepCutAuto
import Derived.BigQuiet
import Derived.Deep.QuietTactic
import Derived.Deep.LoopGhost
open Go.Value renaming int → vi
open Go.IntKind renaming i64 → ki
open List renaming setIfInBounds_toArray → zb, set_cons_zero → zc, set_cons_succ → zd
open Go.Act renaming put → za
open Go.Ending renaming returned → zr
set_option maxRecDepth 100000
set_option maxHeartbeats 16000000
set_option linter.unusedVariables false
namespace Go.Proofs.YtaoocecipacnhaaDoor
open Go.RowKit
structure Kp (g : Nat) (w W : World) : Prop where
 os : W.os = w.os
 tape : W.tape = w.tape
 output : W.output = w.output
 size : w.heap.size ≤ W.heap.size
 block : ∀ k, k < w.heap.size → k ≠ g → W.heap[k]? = w.heap[k]?
theorem Kp.refl (g : Nat) (w : World) : Kp g w w := ⟨rfl, rfl, rfl, Nat.le_refl _, fun _ _ _ => rfl⟩
theorem Kp.trans {g : Nat} {a b c : World} (h : Kp g a b) (k : Kp g b c) : Kp g a c :=
 ⟨k.os.trans h.os, k.tape.trans h.tape, k.output.trans h.output, Nat.le_trans h.size k.size, fun i hi hg => (k.block i (Nat.lt_of_lt_of_le hi h.size) hg).trans (h.block i hi hg)⟩
theorem Kp.of {g : Nat} {w W : World} (h : Below w.heap.size w W) : Kp g w W := ⟨h.os, h.tape, h.output, h.size, fun k hk _ => h.block k hk⟩
theorem Kp.below {g B : Nat} {w W : World} (h : Kp g w W) (hg : B ≤ g) (hB : B ≤ w.heap.size) : Below B w W := ⟨h.os, h.tape, h.output, h.size, fun k hk => h.block k (by omega) (by omega)⟩
theorem Kp.drew {g : Nat} {a w : World} (h : Kp g a w) : Kp g a w.drew := ⟨h.os, h.tape, h.output, h.size, h.block⟩
theorem Kp.alloc {g : Nat} {a w : World} (h : Kp g a w) (o : Obj) : Kp g a (w.alloc o) := h.trans (.of ((Below.refl _ _).alloc (Nat.le_refl _) o))
theorem Kp.set {g : Nat} {a w : World} (h : Kp g a w) {p : Addr} (hp : p.block = g ∨ a.heap.size ≤ p.block) (u : Value) : Kp g a (w.setCell p u) :=
 ⟨h.os, h.tape, h.output, by simpa using h.size, fun k hk hg => by
  rw [Below.heap_setCell _ _ _ _ (by rcases hp with e | e <;> omega)]; exact h.block k hk hg⟩
theorem Kp.sets {g : Nat} {a : World} {b : Nat} (hb : b = g ∨ a.heap.size ≤ b) : ∀ (vs : List Value) (W : World) (i : Nat), Kp g a W → Kp g a (W.setCells b i vs)
 | [], _, _, h => h
 | v :: vs, W, i, h => Kp.sets hb vs _ _ (h.set (p := ⟨b, i, none⟩) hb v)
theorem Kp.cell {g : Nat} {w W : World} (h : Kp g w W) {p : Addr} (hp : p.block < w.heap.size) (hg : p.block ≠ g) : W.cell? p = w.cell? p := World.cell?_of_block (w := w) (h.block _ hp hg)
theorem Kp.bx {g : Nat} {w W : World} (h : Kp g w W) {b : Nat} {l : List Value} (hb : Bx w b l) (hg : b ≠ g) : Bx W b l :=
 ⟨Nat.lt_of_lt_of_le hb.1 h.size, fun i v e => ⟨(h.cell (p := ⟨b, i, none⟩) hb.1 hg).trans (hb.2 i v e).1, (World.frozen?_of_block (w := w) (a := ⟨b, i, none⟩) (h.block _ hb.1 hg)).trans (hb.2 i v e).2⟩⟩
def KB (g : Nat) (w : World) (l : List (Nat × List Value)) (W : World) : Prop := Kp g w W ∧ ∀ x ∈ l, w.heap.size ≤ x.1 ∧ x.1 ≠ g ∧ Bx W x.1 x.2
theorem KB.start (g : Nat) (w : World) : KB g w [] w := ⟨Kp.refl _ _, fun x h => by cases h⟩
theorem KB.kp {g : Nat} {w W V : World} {l : List (Nat × List Value)} (h : KB g w l W) (hb : Kp g W V) : KB g w l V := ⟨h.1.trans hb, fun x hx => ⟨(h.2 x hx).1, (h.2 x hx).2.1, hb.bx (h.2 x hx).2.2 (h.2 x hx).2.1⟩⟩
theorem KB.drew {g : Nat} {w W : World} {l : List (Nat × List Value)} (h : KB g w l W) : KB g w l W.drew := ⟨h.1.drew, h.2⟩
theorem KB.below {g : Nat} {w W V : World} {l : List (Nat × List Value)} (h : KB g w l W) (hb : Below W.heap.size W V) : KB g w l V := h.kp (.of hb)
theorem KB.new {g : Nat} {w W : World} {l : List (Nat × List Value)} (h : KB g w l W) (hg : g < w.heap.size) (cs : List Value) (t : TypeId) {b : Nat} (hb : W.heap.size = b) : KB g w ((b, cs) :: l) (W.alloc (.cells cs.toArray t)) :=
 ⟨h.1.alloc _, fun x hx => by
  rcases List.mem_cons.1 hx with rfl | hx
  ·refine ⟨by rw [← hb]; exact h.1.size, ?_, by rw [← hb]; exact Bx.new W cs t⟩
   have := h.1.size; simp only; omega
  ·exact (h.kp ((Kp.refl g W).alloc _)).2 x hx⟩
theorem KB.first {g : Nat} {w W : World} {l : List (Nat × List Value)} {b : Nat} {cs : List Value} (h : KB g w ((b, cs) :: l) W) : Bx W b cs := (h.2 (b, cs) List.mem_cons_self).2.2
theorem KB.tail {g : Nat} {w W : World} {l : List (Nat × List Value)} {x : Nat × List Value} (h : KB g w (x :: l) W) : KB g w l W := ⟨h.1, fun y hy => h.2 y (List.mem_cons_of_mem _ hy)⟩
theorem KB.set {g : Nat} {w W : World} {l : List (Nat × List Value)} {b : Nat} {cs : List Value} (h : KB g w ((b, cs) :: l) W) (vs : List Value) (hl : cs.length = vs.length) (hn : ∀ x ∈ l, x.1 ≠ b) : KB g w ((b, vs) :: l) (W.setCells b 0 vs) :=
 ⟨Kp.sets (.inr (h.2 (b, cs) List.mem_cons_self).1) vs W 0 h.1, fun x hx => by
  rcases List.mem_cons.1 hx with rfl | hx
  ·exact ⟨(h.2 (b, cs) List.mem_cons_self).1, (h.2 (b, cs) List.mem_cons_self).2.1, h.first.setAll vs hl⟩
  ·exact ⟨(h.2 x (List.mem_cons_of_mem _ hx)).1, (h.2 x (List.mem_cons_of_mem _ hx)).2.1, (h.2 x (List.mem_cons_of_mem _ hx)).2.2.setOther (hn x hx) vs⟩⟩
mutual
def NdAt (X : Nat → Prop) (w : World) : Nd → List Value → Prop
 | .mk k t ks a, cs => ∃ sv, cs = [vi ki k, .string t, sv, vi ki a] ∧ ((ks = [] ∧ sv = .slice none 0 0) ∨ ∃ b cap, sv = .slice (some ⟨b, 0, none⟩) ks.length cap ∧ 0 < ks.length ∧ ks.length ≤ cap ∧ cap ≤ maxLen ∧ X b ∧ b < w.heap.size ∧ RwAt X w b 0 ks)
def RwAt (X : Nat → Prop) (w : World) (b : Nat) : Nat → List Nd → Prop
 | _, [] => True
 | i, n :: l => (∃ c0 c1 c2 c3, w.cell? ⟨b, i * 4, none⟩ = some c0 ∧ w.cell? ⟨b, i * 4 + 1, none⟩ = some c1 ∧ w.cell? ⟨b, i * 4 + 2, none⟩ = some c2 ∧ w.cell? ⟨b, i * 4 + 3, none⟩ = some c3 ∧ NdAt X w n [c0, c1, c2, c3]) ∧ RwAt X w b (i + 1) l
end
mutual
theorem NdAt.keep {X Y : Nat → Prop} {w W : World} (hs : w.heap.size ≤ W.heap.size) (h : ∀ b, X b → b < w.heap.size → Y b ∧ W.heap[b]? = w.heap[b]?) : ∀ (n : Nd) (cs : List Value), NdAt X w n cs → NdAt Y W n cs
 | .mk k t ks a, cs, hn => by
  rw [NdAt] at hn ⊢
  obtain ⟨sv, e, hv⟩ := hn
  refine ⟨sv, e, ?_⟩
  rcases hv with hv | ⟨b, cap, e1, e0, e2, e3, e4, e5, e6⟩
  ·exact .inl hv
  ·exact .inr ⟨b, cap, e1, e0, e2, e3, (h b e4 e5).1, Nat.lt_of_lt_of_le e5 hs, RwAt.keep hs h ks b 0 e4 e5 e6⟩
theorem RwAt.keep {X Y : Nat → Prop} {w W : World} (hs : w.heap.size ≤ W.heap.size) (h : ∀ b, X b → b < w.heap.size → Y b ∧ W.heap[b]? = w.heap[b]?) : ∀ (l : List Nd) (b i : Nat), X b → b < w.heap.size → RwAt X w b i l → RwAt Y W b i l
 | [], b, i, hb, hs, hr => by rw [RwAt]; trivial
 | n :: l, b, i, hb, hz, hr => by
  rw [RwAt] at hr ⊢
  obtain ⟨⟨c0, c1, c2, c3, h0, h1, h2, h3, hn⟩, hr⟩ := hr
  have q := (h b hb hz).2
  exact ⟨⟨c0, c1, c2, c3, (World.cell?_of_block (w := w) (a := ⟨b, i * 4, none⟩) q).trans h0, (World.cell?_of_block (w := w) (a := ⟨b, i * 4 + 1, none⟩) q).trans h1, (World.cell?_of_block (w := w) (a := ⟨b, i * 4 + 2, none⟩) q).trans h2, (World.cell?_of_block (w := w) (a := ⟨b, i * 4 + 3, none⟩) q).trans h3, NdAt.keep hs h n _ hn⟩, RwAt.keep hs h l b (i + 1) hb hz hr⟩
end
theorem NdAt.kp {g : Nat} {X Y : Nat → Prop} {w W : World} {n : Nd} {cs : List Value} (h : NdAt X w n cs) (k : Kp g w W) (hX : ∀ b, X b → Y b ∧ b ≠ g) : NdAt Y W n cs :=
 NdAt.keep k.size (fun b hb hz => ⟨(hX b hb).1, k.block b hz (hX b hb).2⟩) n cs h
theorem NdAt.off {X Y : Nat → Prop} {w W : World} {n : Nd} {cs : List Value} (h : NdAt X w n cs) {r : Nat} (k : ∀ b, b < w.heap.size → b ≠ r → W.heap[b]? = w.heap[b]?) (hz : w.heap.size ≤ W.heap.size) (hX : ∀ b, X b → Y b ∧ b ≠ r) : NdAt Y W n cs :=
 NdAt.keep hz (fun b hb hl => ⟨(hX b hb).1, k b hl (hX b hb).2⟩) n cs h
theorem NdAt.leaf (X : Nat → Prop) (w : World) (k : Int) (t : ByteArray) (a : Int) : NdAt X w (.mk k t [] a) [vi ki k, .string t, .slice none 0 0, vi ki a] := by
 rw [NdAt]; exact ⟨_, rfl, .inl ⟨rfl, rfl⟩⟩
theorem NdAt.row {X : Nat → Prop} {w : World} {k : Int} {t : ByteArray} {ks : List Nd} {a : Int} {b cap : Nat} (h0 : 0 < ks.length) (h1 : ks.length ≤ cap) (h2 : cap ≤ maxLen) (hX : X b) (hb : b < w.heap.size) (h : RwAt X w b 0 ks) :
  NdAt X w (.mk k t ks a) [vi ki k, .string t, .slice (some ⟨b, 0, none⟩) ks.length cap, vi ki a] := by
 rw [NdAt]; exact ⟨_, rfl, .inr ⟨b, cap, rfl, h0, h1, h2, hX, hb, h⟩⟩
theorem RwAt.one {X : Nat → Prop} {w : World} {b : Nat} {n : Nd} {c0 c1 c2 c3 : Value} (hb : Bx w b [c0, c1, c2, c3]) (h : NdAt X w n [c0, c1, c2, c3]) : RwAt X w b 0 [n] := by
 rw [RwAt]; exact ⟨⟨c0, c1, c2, c3, hb.c 0 rfl, hb.c 1 rfl, hb.c 2 rfl, hb.c 3 rfl, h⟩, by rw [RwAt]; trivial⟩
theorem RwAt.two {X : Nat → Prop} {w : World} {b : Nat} {n m : Nd} {c0 c1 c2 c3 d0 d1 d2 d3 : Value} (hb : Bx w b [c0, c1, c2, c3, d0, d1, d2, d3]) (h : NdAt X w n [c0, c1, c2, c3]) (h2 : NdAt X w m [d0, d1, d2, d3]) : RwAt X w b 0 [n, m] := by
 rw [RwAt]; exact ⟨⟨c0, c1, c2, c3, hb.c 0 rfl, hb.c 1 rfl, hb.c 2 rfl, hb.c 3 rfl, h⟩, by rw [RwAt]; exact ⟨⟨d0, d1, d2, d3, hb.c 4 rfl, hb.c 5 rfl, hb.c 6 rfl, hb.c 7 rfl, h2⟩, by rw [RwAt]; trivial⟩⟩
def TR (w : World) (b : Nat) (T : List Tk) : Prop := b < w.heap.size ∧ ∀ i v, (flatT T)[i]? = some v → w.cell? ⟨b, i, none⟩ = some v
theorem TR.kp {g : Nat} {w W : World} {b : Nat} {T : List Tk} (h : TR w b T) (k : Kp g w W) (hb : b ≠ g) : TR W b T :=
 ⟨Nat.lt_of_lt_of_le h.1 k.size, fun i v e => (k.cell (p := ⟨b, i, none⟩) h.1 hb).trans (h.2 i v e)⟩
theorem TR.at {w : World} {b : Nat} {T pre L : List Tk} {p : Tk} (h : TR w b T) (e : T = pre ++ p :: L) :
  w.cell? ⟨b, pre.length * 3, none⟩ = some (vi ki p.1) ∧ w.cell? ⟨b, pre.length * 3 + 1, none⟩ = some (.string p.2.1) ∧ w.cell? ⟨b, pre.length * 3 + 2, none⟩ = some (vi ki p.2.2) := by
 have q := flatT_at T pre.length p (by rw [e]; simp)
 exact ⟨h.2 _ _ q.1, h.2 _ _ q.2.1, h.2 _ _ q.2.2⟩
structure PS (g b cap : Nat) (T : List Tk) (w : World) (L : List Tk) (d : Nat) : Prop where
 bx : ∃ (pre : List Tk) (a e : Int), T = pre ++ L ∧ Bx w g [.slice (some ⟨b, pre.length * 3, none⟩) L.length (cap - pre.length), vi ki (d : Int), vi ki a, vi ki e]
 tr : TR w b T
 ne : b ≠ g
 le : T.length ≤ cap
 most : cap ≤ maxLen
def PF (g : Nat) (w : World) (d : Nat) (a e : Int) : Prop := ∃ left, Bx w g [left, vi ki (d : Int), vi ki a, vi ki e] ∧ left.oneCell' = true
theorem PS.lt {g b cap : Nat} {T : List Tk} {w : World} {L : List Tk} {d : Nat} (h : PS g b cap T w L d) : g < w.heap.size := by
 obtain ⟨_, _, _, _, h⟩ := h.bx; exact h.1
theorem PS.keep {g b cap : Nat} {T : List Tk} {w W : World} {L : List Tk} {d : Nat} (h : PS g b cap T w L d) (hs : w.heap.size ≤ W.heap.size) (k : ∀ c, c = g ∨ c = b → W.heap[c]? = w.heap[c]?) : PS g b cap T W L d := by
 obtain ⟨⟨pre, a, e, h1, h2⟩, h3, h4, h5, h6⟩ := h
 have q := k g (.inl rfl)
 exact ⟨⟨pre, a, e, h1, Nat.lt_of_lt_of_le h2.1 hs, fun i v hv => ⟨(World.cell?_of_block (w := w) (a := ⟨g, i, none⟩) q).trans (h2.2 i v hv).1, (World.frozen?_of_block (w := w) (a := ⟨g, i, none⟩) q).trans (h2.2 i v hv).2⟩⟩, ⟨Nat.lt_of_lt_of_le h3.1 hs, fun i v hv => (World.cell?_of_block (w := w) (a := ⟨b, i, none⟩) (k b (.inr rfl))).trans (h3.2 i v hv)⟩, h4, h5, h6⟩
theorem PS.below {g b cap : Nat} {T : List Tk} {w W : World} {L : List Tk} {d : Nat} (h : PS g b cap T w L d) (k : Below w.heap.size w W) : PS g b cap T W L d :=
 h.keep k.size fun c hc => k.block c (by rcases hc with rfl | rfl; exact h.lt; exact h.tr.1)
theorem PF.keep {g : Nat} {w W : World} {d : Nat} {a e : Int} (h : PF g w d a e) (hs : w.heap.size ≤ W.heap.size) (k : W.heap[g]? = w.heap[g]?) : PF g W d a e := by
 obtain ⟨l, h2, h3⟩ := h
 exact ⟨l, ⟨Nat.lt_of_lt_of_le h2.1 hs, fun i v hv => ⟨(World.cell?_of_block (w := w) (a := ⟨g, i, none⟩) k).trans (h2.2 i v hv).1, (World.frozen?_of_block (w := w) (a := ⟨g, i, none⟩) k).trans (h2.2 i v hv).2⟩⟩, h3⟩
theorem PS.off {g b cap : Nat} {T : List Tk} {w W : World} {L : List Tk} {d : Nat} (h : PS g b cap T w L d) {r : Nat} (k : ∀ c, c < w.heap.size → c ≠ r → W.heap[c]? = w.heap[c]?) (hz : w.heap.size ≤ W.heap.size) (h1 : g ≠ r) (h2 : b ≠ r) : PS g b cap T W L d :=
 h.keep hz fun c hc => by rcases hc with rfl | rfl; exact k _ h.lt h1; exact k _ h.tr.1 h2
theorem PF.off {g : Nat} {w W : World} {d : Nat} {a e : Int} (h : PF g w d a e) {r : Nat} (k : ∀ c, c < w.heap.size → c ≠ r → W.heap[c]? = w.heap[c]?) (hz : w.heap.size ≤ W.heap.size) (h1 : g ≠ r) : PF g W d a e :=
 h.keep hz (k g (by obtain ⟨_, h, _⟩ := h; exact h.1) h1)
theorem fold_alloc {g : Nat} {w : World} : ∀ (os : List Obj) (W : World), Kp g w W → (Kp g w (os.foldl World.alloc W) ∧ W.heap.size ≤ (os.foldl World.alloc W).heap.size ∧ (∀ k, k < W.heap.size → (os.foldl World.alloc W).heap[k]? = W.heap[k]?) ∧ ∀ b l, Bx W b l → Bx (os.foldl World.alloc W) b l)
 | [], W, h => ⟨h, Nat.le_refl _, fun _ _ => rfl, fun _ _ h => h⟩
 | o :: os, W, h => by
  obtain ⟨q1, q2, q3, q4⟩ := fold_alloc os (W.alloc o) (h.alloc o)
  refine ⟨q1, Nat.le_trans (by simp) q2, fun k hk => (q3 k (by simp; omega)).trans (Below.heap_alloc _ _ _ hk), fun b l hb => q4 b l (hb.alloc o)⟩
theorem fin4 {g : Nat} {w W : World} {r : Nat} {z0 z1 z2 z3 : Value} (os : List Obj) (v0 v1 v2 v3 : Value) (hk : Kp g w W) (hr : w.heap.size ≤ r) (hb : Bx W r [z0, z1, z2, z3]) :
  Kp g w (os.foldl World.alloc (W.setCells r 0 [v0, v1, v2, v3])) ∧ Bx (os.foldl World.alloc (W.setCells r 0 [v0, v1, v2, v3])) r [v0, v1, v2, v3] ∧ (∀ k, k < W.heap.size → k ≠ r → (os.foldl World.alloc (W.setCells r 0 [v0, v1, v2, v3])).heap[k]? = W.heap[k]?) ∧ W.heap.size ≤ (os.foldl World.alloc (W.setCells r 0 [v0, v1, v2, v3])).heap.size := by
 have hz : (W.setCells r 0 [v0, v1, v2, v3]).heap.size = W.heap.size := setCells_size _ _ _ _
 obtain ⟨q1, q2, q3, q4⟩ := fold_alloc os (W.setCells r 0 [v0, v1, v2, v3]) (Kp.sets (.inr hr) _ _ _ hk)
 refine ⟨q1, q4 _ _ (hb.setAll _ rfl), fun k h0 h => (q3 k (by omega)).trans ?_, by omega⟩
 simp only [World.setCells]
 rw [Below.heap_setCell _ _ _ _ h, Below.heap_setCell _ _ _ _ h, Below.heap_setCell _ _ _ _ h, Below.heap_setCell _ _ _ _ h]
def Out (g b cap : Nat) (T : List Tk) (X : Nat → Prop) (w' : World) (d : Nat) (e : Ending) : PR → Prop
 | .ok n l1 => PS g b cap T w' l1 d ∧ EndL l1 ∧ ∃ k t sq sn sc a, e = zr (.tuple #[.agg #[vi ki k, .string t, .slice sq sn sc, vi ki a], .bool true]) ∧ NdAt X w' n [vi ki k, .string t, .slice sq sn sc, vi ki a]
 | .no a er => PF g w' d a er ∧ e = zr (.tuple #[.agg #[vi ki 0, .string ⟨#[]⟩, .slice none 0 0, vi ki 0], .bool false])
/-- the result's block is written last: all that is wanted of it. -/
theorem fin8 {g : Nat} {w W : World} {r : Nat} {z0 z1 z2 z3 : Value} (os : List Obj) (v0 v1 v2 v3 : Value) (hk : Kp g w W) (hr : w.heap.size ≤ r) (hb : Bx W r [z0, z1, z2, z3]) :
  (os.foldl World.alloc (W.setCells r 0 [v0, v1, v2, v3])).cell? ⟨r, 0, none⟩ = some v0 ∧ (os.foldl World.alloc (W.setCells r 0 [v0, v1, v2, v3])).cell? ⟨r, 1, none⟩ = some v1 ∧ (os.foldl World.alloc (W.setCells r 0 [v0, v1, v2, v3])).cell? ⟨r, 2, none⟩ = some v2 ∧ (os.foldl World.alloc (W.setCells r 0 [v0, v1, v2, v3])).cell? ⟨r, 3, none⟩ = some v3 ∧
  Hid (Kp g w (os.foldl World.alloc (W.setCells r 0 [v0, v1, v2, v3]))) ∧ Hid (∀ k, k < W.heap.size → k ≠ r → (os.foldl World.alloc (W.setCells r 0 [v0, v1, v2, v3])).heap[k]? = W.heap[k]?) ∧ Hid (W.heap.size ≤ (os.foldl World.alloc (W.setCells r 0 [v0, v1, v2, v3])).heap.size) ∧
  W.cell? ⟨r, 0, none⟩ = some z0 ∧ W.cell? ⟨r, 1, none⟩ = some z1 ∧ W.cell? ⟨r, 2, none⟩ = some z2 ∧ W.cell? ⟨r, 3, none⟩ = some z3 ∧ W.frozen? ⟨r, 0, none⟩ = false ∧ W.frozen? ⟨r, 1, none⟩ = false ∧ W.frozen? ⟨r, 2, none⟩ = false ∧ W.frozen? ⟨r, 3, none⟩ = false ∧ r < W.heap.size := by
 obtain ⟨a, b, c, d⟩ := fin4 os v0 v1 v2 v3 hk hr hb
 exact ⟨b.c 0 rfl, b.c 1 rfl, b.c 2 rfl, b.c 3 rfl, a, c, d, hb.c 0 rfl, hb.c 1 rfl, hb.c 2 rfl, hb.c 3 rfl, hb.f 0 rfl, hb.f 1 rfl, hb.f 2 rfl, hb.f 3 rfl, hb.1⟩
theorem fin9 {g : Nat} {w W : World} {r : Nat} {z0 z1 z2 z3 : Value} (v0 v1 v2 v3 : Value) (hk : Kp g w W) (hr : w.heap.size ≤ r) (hb : Bx W r [z0, z1, z2, z3]) :
  ((((W.setCell ⟨r, 0, none⟩ v0).setCell ⟨r, 1, none⟩ v1).setCell ⟨r, 2, none⟩ v2).setCell ⟨r, 3, none⟩ v3).cell? ⟨r, 0, none⟩ = some v0 ∧ ((((W.setCell ⟨r, 0, none⟩ v0).setCell ⟨r, 1, none⟩ v1).setCell ⟨r, 2, none⟩ v2).setCell ⟨r, 3, none⟩ v3).cell? ⟨r, 1, none⟩ = some v1 ∧ ((((W.setCell ⟨r, 0, none⟩ v0).setCell ⟨r, 1, none⟩ v1).setCell ⟨r, 2, none⟩ v2).setCell ⟨r, 3, none⟩ v3).cell? ⟨r, 2, none⟩ = some v2 ∧ ((((W.setCell ⟨r, 0, none⟩ v0).setCell ⟨r, 1, none⟩ v1).setCell ⟨r, 2, none⟩ v2).setCell ⟨r, 3, none⟩ v3).cell? ⟨r, 3, none⟩ = some v3 ∧
  Hid (Kp g w (([] : List Obj).foldl World.alloc (W.setCells r 0 [v0, v1, v2, v3]))) ∧ Hid (∀ k, k < W.heap.size → k ≠ r → (([] : List Obj).foldl World.alloc (W.setCells r 0 [v0, v1, v2, v3])).heap[k]? = W.heap[k]?) ∧ Hid (W.heap.size ≤ (([] : List Obj).foldl World.alloc (W.setCells r 0 [v0, v1, v2, v3])).heap.size) ∧
  W.cell? ⟨r, 0, none⟩ = some z0 ∧ W.cell? ⟨r, 1, none⟩ = some z1 ∧ W.cell? ⟨r, 2, none⟩ = some z2 ∧ W.cell? ⟨r, 3, none⟩ = some z3 ∧ W.frozen? ⟨r, 0, none⟩ = false ∧ W.frozen? ⟨r, 1, none⟩ = false ∧ W.frozen? ⟨r, 2, none⟩ = false ∧ W.frozen? ⟨r, 3, none⟩ = false ∧ r < W.heap.size := fin8 [] v0 v1 v2 v3 hk hr hb
theorem fail_any (g : Nat) (left : Value) (d : Nat) (a0 e0 a er : Int) (w : World) (hb : Bx w g [left, vi ki (d : Int), vi ki a0, vi ki e0]) :
  Calls Tryd.prog 66 #[.pointer (some ⟨g, 0, none⟩), vi ki a, vi ki er] w fun e w' => e = zr (.tuple #[.agg #[vi ki 0, .string ⟨#[]⟩, .slice none 0 0, vi ki 0], .bool false]) ∧ Kp g w w' ∧ Bx w' g [left, vi ki (d : Int), vi ki a, vi ki er] := by
 have c2 := hb.c 2 rfl
 have c3 := hb.c 3 rfl
 have z2 := hb.f 2 rfl
 have z3 := hb.f 3 rfl
 have hg := hb.1
 have HB : Hid (Bx w g [left, vi ki (d : Int), vi ki a0, vi ki e0]) := hb
 clear hb
 go_enter Tryd.func66, Tryd.ntmps66
 go_wp2
 refine bodyPost_ret (v := .tuple #[.agg #[vi ki 0, .string ⟨#[]⟩, .slice none 0 0, vi ki 0], .bool false]) (by simp [results, Tryd.results66, go_sem]) rfl ⟨rfl, ?_, ?_⟩
 ·exact (((Kp.refl g w).set (.inl rfl) _).set (.inl rfl) _).alloc _
 ·exact (((HB.out.set1 2 _ (by simp)).set1 3 _ (by simp)).alloc _)
theorem wrong_any (g b cap : Nat) (T : List Tk) (p : Tk) (l : List Tk) (d : Nat) (w : World) (h : PS g b cap T w (p :: l) d) :
  Calls Tryd.prog 53 #[.pointer (some ⟨g, 0, none⟩)] w fun e w' => e = zr (.tuple #[.agg #[vi ki 0, .string ⟨#[]⟩, .slice none 0 0, vi ki 0], .bool false]) ∧ Kp g w w' ∧ PF g w' d p.2.2 30 := by
 obtain ⟨⟨pre, a0, e0, e, hb⟩, htr, hne, hle, hmost⟩ := h
 have HB : Hid (Bx w g _) := hb
 have HT : Hid (TR w b T) := htr
 have c0 := hb.c 0 rfl
 have c1 := hb.c 1 rfl
 have z0 := hb.f 0 rfl
 have z1 := hb.f 1 rfl
 have hg := hb.1
 have hbl := htr.1
 obtain ⟨t0, t1, t2⟩ := htr.at e
 have HM : Hid (cap ≤ maxLen) := hmost
 unfold maxLen at hmost
 have hlen : T.length = pre.length + l.length + 1 := by rw [e]; simp <;> omega
 clear hb htr
 go_enter Tryd.func53, Tryd.ntmps53
 go_wp2_with fail
 refine (fail_any g _ d a0 e0 p.2.2 30 _ (HB.out.alloc _)).mono ?_
 rintro e W ⟨rfl, hk, hx⟩
 have HK : Hid (Kp g w W) := ((Kp.refl g w).alloc _).trans hk
 have HX : Hid (Bx W w.heap.size _) := hk.bx (Bx.new w [vi ki 0, .string ⟨#[]⟩, .slice none 0 0, vi ki 0] _) (by omega)
 have HP : Hid (Bx W g _) := hx
 clear hk hx
 obtain ⟨y0', y1', y2', y3', HFK, HFO, HFS, r0, r1, r2, r3, s0, s1, s2, s3, hrw'⟩ := fin9 (vi ki 0) (.string ⟨#[]⟩) (.slice none 0 0) (vi ki 0) HK.out (by omega) (HX.out)
 go_wp2
 refine bodyPost_ret (v := .tuple #[.agg #[vi ki 0, .string ⟨#[]⟩, .slice none 0 0, vi ki 0], .bool false]) (by simp [results, Tryd.results53, go_sem, y0', y1', y2', y3']) rfl ⟨rfl, HFK.out, PF.off ⟨_, HP.out, rfl⟩ HFO.out HFS.out (by omega)⟩
theorem next_any (g b cap : Nat) (T : List Tk) (p q : Tk) (l : List Tk) (d : Nat) (w : World) (h : PS g b cap T w (p :: q :: l) d) :
  Calls Tryd.prog 54 #[.pointer (some ⟨g, 0, none⟩)] w fun e w' => e = zr (.agg #[vi ki p.1, .string p.2.1, vi ki p.2.2]) ∧ Kp g w w' ∧ PS g b cap T w' (q :: l) d := by
 obtain ⟨⟨pre, a0, e0, e, hb⟩, htr, hne, hle, hmost⟩ := h
 have HB : Hid (Bx w g _) := hb
 have HT : Hid (TR w b T) := htr
 have c0 := hb.c 0 rfl
 have c1 := hb.c 1 rfl
 have z0 := hb.f 0 rfl
 have z1 := hb.f 1 rfl
 have hg := hb.1
 have hbl := htr.1
 obtain ⟨t0, t1, t2⟩ := htr.at e
 have HM : Hid (cap ≤ maxLen) := hmost
 unfold maxLen at hmost
 have hlen : T.length = pre.length + l.length + 2 := by rw [e]; simp <;> omega
 clear hb htr
 go_enter Tryd.func54, Tryd.ntmps54
 go_wp2
 refine bodyPost_ret (v := .agg #[vi ki p.1, .string p.2.1, vi ki p.2.2]) (by simp [results, Tryd.results54, go_sem]) rfl ⟨rfl, ?_, ?_⟩
 ·exact (((Kp.refl g w).set (.inl rfl) _).alloc _).alloc _
 ·have q1 := ((HB.out.set1 0 (.slice (some ⟨b, pre.length * 3 + 3, none⟩) (l.length + 1) (cap - pre.length - 1)) (by simp)).alloc (.cells #[vi ki p.1, .string p.2.1, vi ki p.2.2] 81)).alloc (.cells #[vi ki p.1, .string p.2.1, vi ki p.2.2] 81)
  refine ⟨⟨pre ++ [p], a0, e0, by rw [e]; simp, ?_⟩, ?_, hne, hle, HM.out⟩
  ·rw [show (pre ++ [p]).length * 3 = pre.length * 3 + 3 by simp; omega, show cap - (pre ++ [p]).length = cap - pre.length - 1 by simp; omega]; exact q1
  ·exact HT.out.kp ((((Kp.refl g w).set (p := ⟨g, 0, none⟩) (.inl rfl) _).alloc _).alloc _) hne
theorem next_end (g b cap : Nat) (T : List Tk) (p : Tk) (d : Nat) (w : World) (h : PS g b cap T w [p] d) :
  Calls Tryd.prog 54 #[.pointer (some ⟨g, 0, none⟩)] w fun e w' => e = zr (.agg #[vi ki p.1, .string p.2.1, vi ki p.2.2]) ∧ Kp g w w' := by
 have l : List Tk := []
 obtain ⟨⟨pre, a0, e0, e, hb⟩, htr, hne, hle, hmost⟩ := h
 have HB : Hid (Bx w g _) := hb
 have HT : Hid (TR w b T) := htr
 have c0 := hb.c 0 rfl
 have c1 := hb.c 1 rfl
 have z0 := hb.f 0 rfl
 have z1 := hb.f 1 rfl
 have hg := hb.1
 have hbl := htr.1
 obtain ⟨t0, t1, t2⟩ := htr.at e
 have HM : Hid (cap ≤ maxLen) := hmost
 unfold maxLen at hmost
 have hlen : T.length = pre.length + 1 := by rw [e]; simp <;> omega
 clear hb htr
 go_enter Tryd.func54, Tryd.ntmps54
 by_cases hc : cap - pre.length - 1 = 0
 all_goals
  go_wp2
  refine bodyPost_ret (v := .agg #[vi ki p.1, .string p.2.1, vi ki p.2.2]) (by simp [results, Tryd.results54, go_sem]) rfl ⟨rfl, ?_⟩
  exact (((Kp.refl g w).set (p := ⟨g, 0, none⟩) (.inl rfl) _).alloc _).alloc _
def fl2 : List (Int × ByteArray) → List Value
 | [] => []
 | x :: l => vi ki x.1 :: .string x.2 :: fl2 l
theorem fl2_at : ∀ (l : List (Int × ByteArray)) (i : Nat) (x : Int × ByteArray), l[i]? = some x → (fl2 l)[i * 2]? = some (vi ki x.1) ∧ (fl2 l)[i * 2 + 1]? = some (.string x.2)
 | [], i, x, h => by simp at h
 | y :: l, 0, x, h => by simp at h; subst h; exact ⟨rfl, rfl⟩
 | y :: l, i + 1, x, h => by
  have q := fl2_at l i x (by simpa using h)
  rw [show (i + 1) * 2 = i * 2 + 1 + 1 by omega]
  exact q
def isZ (k : Int) (t : ByteArray) (Z : List (Int × ByteArray)) : Bool := Z.any fun x => decide (k = x.1 ∧ t = x.2)
theorem isZ_isT (p : Tk) (Z : List (Int × ByteArray)) : isZ p.1 p.2.1 Z = isT p Z := rfl
theorem any_take {k : Int} {t : ByteArray} (Z : List (Int × ByteArray)) {j : Nat} {x : Int × ByteArray} (h : Z[j]? = some x) (h0 : isZ k t (Z.take j) = false) (h1 : ¬ (k = x.1 ∧ t = x.2)) : isZ k t (Z.take (j + 1)) = false := by
 unfold isZ at h0 ⊢
 rw [List.take_add_one, h, List.any_append, h0]; simpa using h1
theorem any_at {k : Int} {t : ByteArray} (Z : List (Int × ByteArray)) {j : Nat} (h : Z[j]? = some (k, t)) : isZ k t Z = true :=
 List.any_eq_true.2 ⟨(k, t), List.mem_of_getElem? h, by simp⟩
theorem BS.drewN {w W : World} {l : List (Nat × List Value)} (h : BS w l W) (n : Nat) : BS w l (W.drewN n) := ⟨⟨h.1.os, h.1.tape, h.1.output, h.1.size, h.1.block⟩, h.2⟩
theorem index_any (Z : List (Int × ByteArray)) (k : Int) (t : ByteArray) (bs cp : Nat) (w : World) (hz : Z.length ≤ 100) (hcp : cp ≤ 9223372036854775807) (hzc : Z.length ≤ cp) (hbs : bs < w.heap.size) (hc : Hid (∀ i v, (fl2 Z)[i]? = some v → w.cell? ⟨bs, i, none⟩ = some v)) :
  Calls Tryd.prog 76 #[.slice (some ⟨bs, 0, none⟩) Z.length cp, .agg #[vi ki k, .string t]] w fun e w' => (∃ i : Int, e = zr (vi ki i) ∧ decide (0 ≤ i) = isZ k t Z) ∧ Below w.heap.size w w' := by
 go_enter Tryd.func76, Tryd.ntmps76
 go_wp2_with fail
 go_loopw [8] (fun i W => ∃ j : Nat, j ≤ Z.length ∧ i = vi ki (j : Int) ∧ Hid (BS w [(w.heap.size, [vi ki k, .string t])] W) ∧ Hid (isZ k t (Z.take j) = false)) (fun i _ => Z.length - (intOf i).toNat)
 case atStart => exact ⟨0, Nat.zero_le _, rfl, (BS.start w).new [vi ki k, .string t] _ rfl, rfl⟩
 case round =>
  obtain ⟨j, hj, rfl, HW, HN⟩ := hrel
  by_cases hlt : j < Z.length
  ·have hlt' : (j : Int) < (Z.length : Int) := by omega
   obtain ⟨⟨x1, x2⟩, hx⟩ : ∃ x, Z[j]? = some x := ⟨Z[j]'hlt, List.getElem?_eq_getElem hlt⟩
   obtain ⟨q1, q2⟩ := fl2_at Z j _ hx
   have d1 := (HW.out.1.cell (p := ⟨bs, j * 2, none⟩) hbs).trans (hc.out _ _ q1)
   have d2 := (HW.out.1.cell (p := ⟨bs, j * 2 + 1, none⟩) hbs).trans (hc.out _ _ q2)
   have b1 := HW.out.first.c 0 rfl
   have b2 := HW.out.first.c 1 rfl
   have HX : Hid (Z[j]? = some (x1, x2)) := hx
   have k0 : (0 : Int) ≤ (j : Int) := by omega
   have k1 : (j : Int) ≤ 100 := by omega
   clear q1 q2 hx
   rcases Classical.em (k = x1) with rfl | hk
   ·rcases Classical.em (t = x2) with rfl | ht
    ·go_wp2_with fail
     go_quiet (fail)
     go_wp2
     go_ret
     exact ⟨⟨_, rfl, by rw [any_at Z HX.out]; simp⟩, (HW.out.drewN _).1⟩
    ·have ht2 : (t.toList == x2.toList) = false := by rw [toList_eq]; exact decide_eq_false ht
     go_wp2_with fail
     go_quiet (fail)
     go_wp2
     exact ⟨⟨j + 1, by omega, by simp, HW.out.drewN _, any_take Z HX.out HN.out (fun q => ht q.2)⟩, by simp [intOf]; omega⟩
   ·have hk2 : (k == x1) = false := by simpa using hk
    go_wp2_with fail
    go_quiet (fail)
    go_wp2
    exact ⟨⟨j + 1, by omega, by simp, HW.out.drewN _, any_take Z HX.out HN.out (fun q => hk q.1)⟩, by simp [intOf]; omega⟩
  ·have hj' : ¬ (j : Int) < (Z.length : Int) := by omega
   obtain rfl : j = Z.length := by omega
   have HN' : Hid (isZ k t Z = false) := by have := HN.out; rwa [List.take_length] at this
   clear HN
   go_wp2
   go_ret
   exact ⟨⟨_, rfl, by rw [HN'.out]; simp⟩, HW.out.1⟩
theorem contains_any (Z : List (Int × ByteArray)) (k : Int) (t : ByteArray) (bs cp : Nat) (w : World) (hz : Z.length ≤ 100) (hcp : cp ≤ 9223372036854775807) (hzc : Z.length ≤ cp) (hbs : bs < w.heap.size) (hc : Hid (∀ i v, (fl2 Z)[i]? = some v → w.cell? ⟨bs, i, none⟩ = some v)) :
  Calls Tryd.prog 65 #[.slice (some ⟨bs, 0, none⟩) Z.length cp, .agg #[vi ki k, .string t]] w fun e w' => e = zr (.bool (isZ k t Z)) ∧ Below w.heap.size w w' := by
 go_enter Tryd.func65, Tryd.ntmps65
 go_wp2_with fail
 refine (index_any Z k t bs cp _ hz hcp hzc (by simp; omega) (fun i v hv => (((Below.refl w.heap.size w).alloc (Nat.le_refl _) _).cell (p := ⟨bs, i, none⟩) hbs).trans (hc.out i v hv))).mono ?_
 rintro e W ⟨⟨i, rfl, hi⟩, hb⟩
 have HB : Hid (Below w.heap.size w W) := ((Below.refl w.heap.size w).alloc (Nat.le_refl _) _).trans (hb.mono (by simp))
 have HI : Hid _ := hi
 clear hb hi
 go_wp2
 go_ret
 exact ⟨by rw [← HI.out]; rfl, HB.out⟩
theorem is_any (g b cap : Nat) (T : List Tk) (p : Tk) (l : List Tk) (d : Nat) (Z : List (Int × ByteArray)) (bs cp : Nat) (w : World) (h : PS g b cap T w (p :: l) d) (hz : Z.length ≤ 100) (hcp : cp ≤ 9223372036854775807) (hzc : Z.length ≤ cp) (hbs : Bx w bs (fl2 Z)) :
  Calls Tryd.prog 52 #[.pointer (some ⟨g, 0, none⟩), .slice (some ⟨bs, 0, none⟩) Z.length cp] w fun e w' => e = zr (.bool (isT p Z)) ∧ Below w.heap.size w w' := by
 obtain ⟨⟨pre, a0, e0, e, hb⟩, htr, hne, hle, hmost⟩ := h
 have HB : Hid (Bx w g _) := hb
 have HT : Hid (TR w b T) := htr
 have c0 := hb.c 0 rfl
 have c1 := hb.c 1 rfl
 have z0 := hb.f 0 rfl
 have z1 := hb.f 1 rfl
 have hg := hb.1
 have hbl := htr.1
 obtain ⟨t0, t1, t2⟩ := htr.at e
 have HM : Hid (cap ≤ maxLen) := hmost
 unfold maxLen at hmost
 have hlen : T.length = pre.length + l.length + 1 := by rw [e]; simp <;> omega
 clear hb htr
 have HS : Hid (Bx w bs (fl2 Z)) := hbs
 have hbs' := hbs.1
 clear hbs
 go_enter Tryd.func52, Tryd.ntmps52
 go_wp2_with fail
 refine (contains_any Z p.1 p.2.1 bs cp _ hz hcp hzc hbs' (fun i v hv => (HS.out.2 i v hv).1)).mono ?_
 rintro e W ⟨rfl, hb⟩
 have HW : Hid (Below w.heap.size w W) := hb
 clear hb
 rw [isZ_isT]
 go_wp2
 go_ret
 exact ⟨rfl, HW.out⟩
theorem take_yes (g b cap : Nat) (T : List Tk) (p : Tk) (l : List Tk) (d : Nat) (k : Int) (t : ByteArray) (w : World) (q : Tk) (h : PS g b cap T w (p :: q :: l) d) (hi : isT p [(k, t)] = true) :
  Calls Tryd.prog 28 #[.pointer (some ⟨g, 0, none⟩), .agg #[vi ki k, .string t]] w fun e w' => e = zr (.bool true) ∧ Kp g w w' ∧ PS g b cap T w' (q :: l) d := by
 have HP : Hid _ := h
 have hg := h.lt
 clear h
 go_enter Tryd.func28, Tryd.ntmps28
 go_wp2_with fail
 have B1 : Hid (BS w [(w.heap.size + 1, [vi ki k, .string t]), (w.heap.size, [vi ki k, .string t])] _) := ((BS.start w).new [vi ki k, .string t] 79 rfl).new [vi ki k, .string t] 79 (by simp)
 refine (is_any g b cap T p _ d [(k, t)] (w.heap.size + 1) 1 _ (HP.out.below B1.out.1) (by simp) (by omega) (by simp) B1.out.first).mono ?_
 rintro e W ⟨rfl, hb⟩
 have HW : Hid (Below w.heap.size w W) := B1.out.1.trans (hb.mono B1.out.1.size)
 have HQ : Hid _ := HP.out.below HW.out
 clear hb B1 HP
 rw [hi]
 go_wp2_with fail
 refine (next_any g b cap T p q l d _ HQ.out).mono ?_
 rintro e V ⟨rfl, hk, hp⟩
 have HK : Hid (Kp g w V) := (Kp.of HW.out).trans hk
 have HV : Hid _ := hp
 clear hk hp
 go_wp2
 go_ret
 exact ⟨rfl, HK.out, HV.out⟩
theorem take_end (g b cap : Nat) (T : List Tk) (p : Tk) (l : List Tk) (d : Nat) (k : Int) (t : ByteArray) (w : World) (h : PS g b cap T w [p] d) (hi : isT p [(k, t)] = true) :
  Calls Tryd.prog 28 #[.pointer (some ⟨g, 0, none⟩), .agg #[vi ki k, .string t]] w fun e w' => e = zr (.bool true) ∧ Kp g w w' := by
 have HP : Hid _ := h
 have hg := h.lt
 clear h
 go_enter Tryd.func28, Tryd.ntmps28
 go_wp2_with fail
 have B1 : Hid (BS w [(w.heap.size + 1, [vi ki k, .string t]), (w.heap.size, [vi ki k, .string t])] _) := ((BS.start w).new [vi ki k, .string t] 79 rfl).new [vi ki k, .string t] 79 (by simp)
 refine (is_any g b cap T p _ d [(k, t)] (w.heap.size + 1) 1 _ (HP.out.below B1.out.1) (by simp) (by omega) (by simp) B1.out.first).mono ?_
 rintro e W ⟨rfl, hb⟩
 have HW : Hid (Below w.heap.size w W) := B1.out.1.trans (hb.mono B1.out.1.size)
 have HQ : Hid _ := HP.out.below HW.out
 clear hb B1 HP
 rw [hi]
 go_wp2_with fail
 refine (next_end g b cap T p d _ HQ.out).mono ?_
 rintro e V ⟨rfl, hk⟩
 have HK : Hid (Kp g w V) := (Kp.of HW.out).trans hk
 clear hk
 go_wp2
 go_ret
 exact ⟨rfl, HK.out⟩
theorem take_no (g b cap : Nat) (T : List Tk) (p : Tk) (l : List Tk) (d : Nat) (k : Int) (t : ByteArray) (w : World) (h : PS g b cap T w (p :: l) d) (hi : isT p [(k, t)] = false) :
  Calls Tryd.prog 28 #[.pointer (some ⟨g, 0, none⟩), .agg #[vi ki k, .string t]] w fun e w' => e = zr (.bool false) ∧ Kp g w w' ∧ PF g w' d p.2.2 30 := by
 have HP : Hid _ := h
 have hg := h.lt
 clear h
 go_enter Tryd.func28, Tryd.ntmps28
 go_wp2_with fail
 have B1 : Hid (BS w [(w.heap.size + 1, [vi ki k, .string t]), (w.heap.size, [vi ki k, .string t])] _) := ((BS.start w).new [vi ki k, .string t] 79 rfl).new [vi ki k, .string t] 79 (by simp)
 refine (is_any g b cap T p _ d [(k, t)] (w.heap.size + 1) 1 _ (HP.out.below B1.out.1) (by simp) (by omega) (by simp) B1.out.first).mono ?_
 rintro e W ⟨rfl, hb⟩
 have HW : Hid (Below w.heap.size w W) := B1.out.1.trans (hb.mono B1.out.1.size)
 have HQ : Hid _ := HP.out.below HW.out
 clear hb B1 HP
 rw [hi]
 go_wp2_with fail
 refine (wrong_any g b cap T p l d _ HQ.out).mono ?_
 rintro e V ⟨rfl, hk, hp⟩
 have HK : Hid (Kp g w V) := (Kp.of HW.out).trans hk
 have HV : Hid _ := hp
 clear hk hp
 go_wp2
 go_ret
 exact ⟨rfl, HK.out, HV.out⟩
theorem isType_any (t : ByteArray) (w : World) :
  Calls Tryd.prog 100 #[.string t] w fun e w' => e = zr (.bool (typB t)) ∧ w' = w := by
 have e1 : (t.toList == [100, 97, 116, 101]) = decide (t = dateB) := by rw [← toList_eq t dateB, Lib.toList_data dateB]; rfl
 have e2 : (t.toList == [116, 105, 109, 101, 115, 116, 97, 109, 112]) = decide (t = stampB) := by rw [← toList_eq t stampB, Lib.toList_data stampB]; rfl
 have e3 : (t.toList == [116, 105, 109, 101, 115, 116, 97, 109, 112, 116, 122]) = decide (t = tzB) := by rw [← toList_eq t tzB, Lib.toList_data tzB]; rfl
 have e4 : (t.toList == [105, 110, 116, 101, 114, 118, 97, 108]) = decide (t = ivB) := by rw [← toList_eq t ivB, Lib.toList_data ivB]; rfl
 unfold typB
 generalize hb1 : decide (t = dateB) = b1 at *
 generalize hb2 : decide (t = stampB) = b2 at *
 generalize hb3 : decide (t = tzB) = b3 at *
 generalize hb4 : decide (t = ivB) = b4 at *
 clear hb1 hb2 hb3 hb4
 cases b1 <;> cases b2 <;> cases b3 <;> cases b4
 all_goals
  go_enter Tryd.func100, Tryd.ntmps100
  go_wp2
  go_ret
  exact ⟨rfl, rfl⟩
theorem isFree_any (k : Int) (t : ByteArray) (a : Int) (w : World) :
  Calls Tryd.prog 96 #[.agg #[vi ki k, .string t]] w fun e w' => e = zr (.bool (free (k, t, a))) ∧ Below w.heap.size w w' := by
 have e0 : (t.toList == [116, 114, 117, 101]) = decide (t = trueB) := by rw [← toList_eq t trueB, Lib.toList_data trueB]; rfl
 have e1 : (t.toList == [102, 97, 108, 115, 101]) = decide (t = falseB) := by rw [← toList_eq t falseB, Lib.toList_data falseB]; rfl
 have e2 : (t.toList == [110, 111, 116]) = decide (t = notB) := by rw [← toList_eq t notB, Lib.toList_data notB]; rfl
 have e3 : (t.toList == [97, 110, 100]) = decide (t = andB) := by rw [← toList_eq t andB, Lib.toList_data andB]; rfl
 have e4 : (t.toList == [111, 114]) = decide (t = orB) := by rw [← toList_eq t orB, Lib.toList_data orB]; rfl
 have e5 : (t.toList == [97, 116]) = decide (t = atB) := by rw [← toList_eq t atB, Lib.toList_data atB]; rfl
 have e6 : (t.toList == [116, 105, 109, 101]) = decide (t = timeB) := by rw [← toList_eq t timeB, Lib.toList_data timeB]; rfl
 have e7 : (t.toList == [122, 111, 110, 101]) = decide (t = zoneB) := by rw [← toList_eq t zoneB, Lib.toList_data zoneB]; rfl
 have HB : Hid (Below w.heap.size w (w.alloc (.cells #[vi ki k, .string t] 79))) := (Below.refl _ _).alloc (Nat.le_refl _) _
 have hk : (k == 4) = decide (k = 4) := rfl
 unfold free rsvd
 dsimp only
 generalize hbk : decide (k = 4) = bk at *
 clear hbk
 generalize hb0 : decide (t = trueB) = b0 at *
 clear hb0
 generalize hb1 : decide (t = falseB) = b1 at *
 clear hb1
 generalize hb2 : decide (t = notB) = b2 at *
 clear hb2
 generalize hb3 : decide (t = andB) = b3 at *
 clear hb3
 generalize hb4 : decide (t = orB) = b4 at *
 clear hb4
 generalize hb5 : decide (t = atB) = b5 at *
 clear hb5
 generalize hb6 : decide (t = timeB) = b6 at *
 clear hb6
 generalize hb7 : decide (t = zoneB) = b7 at *
 clear hb7
 cases bk
 all_goals
  cases b0
  rotate_left
  ·go_enter Tryd.func96, Tryd.ntmps96
   go_wp2
   go_ret
   exact ⟨rfl, HB.out⟩
  cases b1
  rotate_left
  ·go_enter Tryd.func96, Tryd.ntmps96
   go_wp2
   go_ret
   exact ⟨rfl, HB.out⟩
  cases b2
  rotate_left
  ·go_enter Tryd.func96, Tryd.ntmps96
   go_wp2
   go_ret
   exact ⟨rfl, HB.out⟩
  cases b3
  rotate_left
  ·go_enter Tryd.func96, Tryd.ntmps96
   go_wp2
   go_ret
   exact ⟨rfl, HB.out⟩
  cases b4
  rotate_left
  ·go_enter Tryd.func96, Tryd.ntmps96
   go_wp2
   go_ret
   exact ⟨rfl, HB.out⟩
  cases b5
  rotate_left
  ·go_enter Tryd.func96, Tryd.ntmps96
   go_wp2
   go_ret
   exact ⟨rfl, HB.out⟩
  cases b6
  rotate_left
  ·go_enter Tryd.func96, Tryd.ntmps96
   go_wp2
   go_ret
   exact ⟨rfl, HB.out⟩
  cases b7
  rotate_left
  ·go_enter Tryd.func96, Tryd.ntmps96
   go_wp2
   go_ret
   exact ⟨rfl, HB.out⟩
  go_enter Tryd.func96, Tryd.ntmps96
  go_wp2
  go_ret
  exact ⟨rfl, HB.out⟩
theorem leaf_any (g b cap : Nat) (T : List Tk) (p q : Tk) (l : List Tk) (d : Nat) (k : Int) (w : World) (h : PS g b cap T w (p :: q :: l) d) :
  Calls Tryd.prog 97 #[.pointer (some ⟨g, 0, none⟩), vi ki k] w fun e w' => e = zr (.tuple #[.agg #[vi ki k, .string p.2.1, .slice none 0 0, vi ki p.2.2], .bool true]) ∧ Kp g w w' ∧ PS g b cap T w' (q :: l) d := by
 have HP : Hid _ := h
 have hg := h.lt
 have hbl := h.tr.1
 clear h
 go_enter Tryd.func97, Tryd.ntmps97
 go_wp2_with fail
 have B1 : Hid (BS w [(w.heap.size, [vi ki 0, .string ⟨#[]⟩, .slice none 0 0, vi ki 0])] _) := ((BS.start w).new [vi ki 0, .string ⟨#[]⟩, .slice none 0 0, vi ki 0] 24 rfl)
 refine (next_any g b cap T p q l d _ (HP.out.below B1.out.1)).mono ?_
 rintro e W ⟨rfl, hk, hp⟩
 have HK : Hid (Kp g w W) := (Kp.of B1.out.1).trans hk
 have HR : Hid (Bx W w.heap.size _) := hk.bx B1.out.first (by omega)
 have HQ : Hid _ := hp
 clear hk hp HP B1
 have hrw := HR.out.1
 obtain ⟨y0', y1', y2', y3', HFK, HFO, HFS, r0, r1, r2, r3, s0, s1, s2, s3, hrw'⟩ := fin8 [.cells #[vi ki p.1, .string p.2.1, vi ki p.2.2] 81] (vi ki k) (.string p.2.1) (.slice none 0 0) (vi ki p.2.2) HK.out (by omega) (HR.out)
 simp only [List.foldl, World.setCells, Nat.zero_add, Nat.reduceAdd] at y0' y1' y2' y3'
 go_wp2
 refine bodyPost_ret (v := .tuple #[.agg #[vi ki k, .string p.2.1, .slice none 0 0, vi ki p.2.2], .bool true]) (by simp [results, Tryd.results97, go_sem, y0', y1', y2', y3']) rfl ⟨rfl, HFK.out, HQ.out.off HFO.out HFS.out (by omega) (by omega)⟩
end Go.Proofs.YtaoocecipacnhaaDoor
