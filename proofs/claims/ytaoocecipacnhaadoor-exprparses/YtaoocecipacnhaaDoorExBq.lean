/- What the functions of expr's parser keep: all that lay stays, but the parser itself; nodes and tokens in memory. -/
import Derived.Test.YtaoocecipacnhaaDoorBxBq
import Derived.Test.YtaoocecipacnhaaDoorExNq
import Derived.Test.YtaoocecipacnhaaDoorWdEq
namespace Go.Proofs.YtaoocecipacnhaaDoor
open Go.RowKit
set_option linter.unusedVariables false

/-- all that lay stays, but block g. -/
structure Kp (g : Nat) (w W : World) : Prop where
  os : W.os = w.os
  tape : W.tape = w.tape
  output : W.output = w.output
  size : w.heap.size ≤ W.heap.size
  block : ∀ k, k < w.heap.size → k ≠ g → W.heap[k]? = w.heap[k]?
theorem Kp.refl (g : Nat) (w : World) : Kp g w w := ⟨rfl, rfl, rfl, Nat.le_refl _, fun _ _ _ => rfl⟩
theorem Kp.trans {g : Nat} {a b c : World} (h : Kp g a b) (k : Kp g b c) : Kp g a c :=
  ⟨k.os.trans h.os, k.tape.trans h.tape, k.output.trans h.output, Nat.le_trans h.size k.size, fun i hi hg => (k.block i (Nat.lt_of_lt_of_le hi h.size) hg).trans (h.block i hi hg)⟩
theorem Kp.of {g : Nat} {w W : World} (h : Below w.heap.size w W) : Kp g w W := ⟨h.os, h.tape, h.output, h.size, fun k hk _ => h.block k hk⟩
theorem Kp.below {g B : Nat} {w W : World} (h : Kp g w W) (hg : B ≤ g) (hB : B ≤ w.heap.size) : Below B w W := ⟨h.os, h.tape, h.output, h.size, fun k hk => h.block k (by omega) (by omega)⟩
theorem Kp.drew {g : Nat} {a w : World} (h : Kp g a w) : Kp g a w.drew := ⟨h.os, h.tape, h.output, h.size, h.block⟩
theorem Kp.alloc {g : Nat} {a w : World} (h : Kp g a w) (o : Obj) : Kp g a (w.alloc o) := h.trans (.of ((Below.refl _ _).alloc (Nat.le_refl _) o))
theorem Kp.set {g : Nat} {a w : World} (h : Kp g a w) {p : Addr} (hp : p.block = g ∨ a.heap.size ≤ p.block) (u : Value) : Kp g a (w.setCell p u) :=
  ⟨h.os, h.tape, h.output, by simpa using h.size, fun k hk hg => by
    rw [Below.heap_setCell _ _ _ _ (by rcases hp with e | e <;> omega)]; exact h.block k hk hg⟩
theorem Kp.sets {g : Nat} {a : World} {b : Nat} (hb : b = g ∨ a.heap.size ≤ b) : ∀ (vs : List Value) (W : World) (i : Nat), Kp g a W → Kp g a (W.setCells b i vs)
  | [], _, _, h => h
  | v :: vs, W, i, h => Kp.sets hb vs _ _ (h.set (p := ⟨b, i, none⟩) hb v)
theorem Kp.cell {g : Nat} {w W : World} (h : Kp g w W) {p : Addr} (hp : p.block < w.heap.size) (hg : p.block ≠ g) : W.cell? p = w.cell? p := World.cell?_of_block (w := w) (h.block _ hp hg)
theorem Kp.bx {g : Nat} {w W : World} (h : Kp g w W) {b : Nat} {l : List Value} (hb : Bx w b l) (hg : b ≠ g) : Bx W b l :=
  ⟨Nat.lt_of_lt_of_le hb.1 h.size, fun i v e => ⟨(h.cell (p := ⟨b, i, none⟩) hb.1 hg).trans (hb.2 i v e).1, (World.frozen?_of_block (w := w) (a := ⟨b, i, none⟩) (h.block _ hb.1 hg)).trans (hb.2 i v e).2⟩⟩

/-- all that lay stays, but block g; these blocks, made since, hold these cells. -/
def KB (g : Nat) (w : World) (l : List (Nat × List Value)) (W : World) : Prop := Kp g w W ∧ ∀ x ∈ l, w.heap.size ≤ x.1 ∧ x.1 ≠ g ∧ Bx W x.1 x.2
theorem KB.start (g : Nat) (w : World) : KB g w [] w := ⟨Kp.refl _ _, fun x h => by cases h⟩
theorem KB.kp {g : Nat} {w W V : World} {l : List (Nat × List Value)} (h : KB g w l W) (hb : Kp g W V) : KB g w l V := ⟨h.1.trans hb, fun x hx => ⟨(h.2 x hx).1, (h.2 x hx).2.1, hb.bx (h.2 x hx).2.2 (h.2 x hx).2.1⟩⟩
theorem KB.drew {g : Nat} {w W : World} {l : List (Nat × List Value)} (h : KB g w l W) : KB g w l W.drew := ⟨h.1.drew, h.2⟩
theorem KB.below {g : Nat} {w W V : World} {l : List (Nat × List Value)} (h : KB g w l W) (hb : Below W.heap.size W V) : KB g w l V := h.kp (.of hb)
theorem KB.new {g : Nat} {w W : World} {l : List (Nat × List Value)} (h : KB g w l W) (hg : g < w.heap.size) (cs : List Value) (t : TypeId) {b : Nat} (hb : W.heap.size = b) : KB g w ((b, cs) :: l) (W.alloc (.cells cs.toArray t)) :=
  ⟨h.1.alloc _, fun x hx => by
    rcases List.mem_cons.1 hx with rfl | hx
    · refine ⟨by rw [← hb]; exact h.1.size, ?_, by rw [← hb]; exact Bx.new W cs t⟩
      have := h.1.size; simp only; omega
    · exact (h.kp ((Kp.refl g W).alloc _)).2 x hx⟩
theorem KB.first {g : Nat} {w W : World} {l : List (Nat × List Value)} {b : Nat} {cs : List Value} (h : KB g w ((b, cs) :: l) W) : Bx W b cs := (h.2 (b, cs) List.mem_cons_self).2.2
theorem KB.tail {g : Nat} {w W : World} {l : List (Nat × List Value)} {x : Nat × List Value} (h : KB g w (x :: l) W) : KB g w l W := ⟨h.1, fun y hy => h.2 y (List.mem_cons_of_mem _ hy)⟩
theorem KB.set {g : Nat} {w W : World} {l : List (Nat × List Value)} {b : Nat} {cs : List Value} (h : KB g w ((b, cs) :: l) W) (vs : List Value) (hl : cs.length = vs.length) (hn : ∀ x ∈ l, x.1 ≠ b) : KB g w ((b, vs) :: l) (W.setCells b 0 vs) :=
  ⟨Kp.sets (.inr (h.2 (b, cs) List.mem_cons_self).1) vs W 0 h.1, fun x hx => by
    rcases List.mem_cons.1 hx with rfl | hx
    · exact ⟨(h.2 (b, cs) List.mem_cons_self).1, (h.2 (b, cs) List.mem_cons_self).2.1, h.first.setAll vs hl⟩
    · exact ⟨(h.2 x (List.mem_cons_of_mem _ hx)).1, (h.2 x (List.mem_cons_of_mem _ hx)).2.1, (h.2 x (List.mem_cons_of_mem _ hx)).2.2.setOther (hn x hx) vs⟩⟩

/-! ### nodes in memory -/
mutual
/-- these cells are a node; all its rows lie in blocks of which X holds. -/
def NdAt (X : Nat → Prop) (w : World) : Nd → List Value → Prop
  | .mk k t ks a, cs => ∃ sv, cs = [.int .i64 k, .string t, sv, .int .i64 a] ∧ ((ks = [] ∧ sv = .slice none 0 0) ∨ ∃ b cap, sv = .slice (some ⟨b, 0, none⟩) ks.length cap ∧ 0 < ks.length ∧ ks.length ≤ cap ∧ cap ≤ maxLen ∧ X b ∧ b < w.heap.size ∧ RwAt X w b 0 ks)
/-- a row of nodes, from a place on. -/
def RwAt (X : Nat → Prop) (w : World) (b : Nat) : Nat → List Nd → Prop
  | _, [] => True
  | i, n :: l => (∃ c0 c1 c2 c3, w.cell? ⟨b, i * 4, none⟩ = some c0 ∧ w.cell? ⟨b, i * 4 + 1, none⟩ = some c1 ∧ w.cell? ⟨b, i * 4 + 2, none⟩ = some c2 ∧ w.cell? ⟨b, i * 4 + 3, none⟩ = some c3 ∧ NdAt X w n [c0, c1, c2, c3]) ∧ RwAt X w b (i + 1) l
end
mutual
theorem NdAt.keep {X Y : Nat → Prop} {w W : World} (hs : w.heap.size ≤ W.heap.size) (h : ∀ b, X b → b < w.heap.size → Y b ∧ W.heap[b]? = w.heap[b]?) : ∀ (n : Nd) (cs : List Value), NdAt X w n cs → NdAt Y W n cs
  | .mk k t ks a, cs, hn => by
    rw [NdAt] at hn ⊢
    obtain ⟨sv, e, hv⟩ := hn
    refine ⟨sv, e, ?_⟩
    rcases hv with hv | ⟨b, cap, e1, e0, e2, e3, e4, e5, e6⟩
    · exact .inl hv
    · exact .inr ⟨b, cap, e1, e0, e2, e3, (h b e4 e5).1, Nat.lt_of_lt_of_le e5 hs, RwAt.keep hs h ks b 0 e4 e5 e6⟩
theorem RwAt.keep {X Y : Nat → Prop} {w W : World} (hs : w.heap.size ≤ W.heap.size) (h : ∀ b, X b → b < w.heap.size → Y b ∧ W.heap[b]? = w.heap[b]?) : ∀ (l : List Nd) (b i : Nat), X b → b < w.heap.size → RwAt X w b i l → RwAt Y W b i l
  | [], b, i, hb, hs, hr => by rw [RwAt]; trivial
  | n :: l, b, i, hb, hz, hr => by
    rw [RwAt] at hr ⊢
    obtain ⟨⟨c0, c1, c2, c3, h0, h1, h2, h3, hn⟩, hr⟩ := hr
    have q := (h b hb hz).2
    exact ⟨⟨c0, c1, c2, c3, (World.cell?_of_block (w := w) (a := ⟨b, i * 4, none⟩) q).trans h0, (World.cell?_of_block (w := w) (a := ⟨b, i * 4 + 1, none⟩) q).trans h1, (World.cell?_of_block (w := w) (a := ⟨b, i * 4 + 2, none⟩) q).trans h2, (World.cell?_of_block (w := w) (a := ⟨b, i * 4 + 3, none⟩) q).trans h3, NdAt.keep hs h n _ hn⟩, RwAt.keep hs h l b (i + 1) hb hz hr⟩
end
theorem NdAt.kp {g : Nat} {X Y : Nat → Prop} {w W : World} {n : Nd} {cs : List Value} (h : NdAt X w n cs) (k : Kp g w W) (hX : ∀ b, X b → Y b ∧ b ≠ g) : NdAt Y W n cs :=
  NdAt.keep k.size (fun b hb hz => ⟨(hX b hb).1, k.block b hz (hX b hb).2⟩) n cs h
/-- written elsewhere. -/
theorem NdAt.off {X Y : Nat → Prop} {w W : World} {n : Nd} {cs : List Value} (h : NdAt X w n cs) {r : Nat} (k : ∀ b, b < w.heap.size → b ≠ r → W.heap[b]? = w.heap[b]?) (hz : w.heap.size ≤ W.heap.size) (hX : ∀ b, X b → Y b ∧ b ≠ r) : NdAt Y W n cs :=
  NdAt.keep hz (fun b hb hl => ⟨(hX b hb).1, k b hl (hX b hb).2⟩) n cs h
theorem NdAt.leaf (X : Nat → Prop) (w : World) (k : Int) (t : ByteArray) (a : Int) : NdAt X w (.mk k t [] a) [.int .i64 k, .string t, .slice none 0 0, .int .i64 a] := by
  rw [NdAt]; exact ⟨_, rfl, .inl ⟨rfl, rfl⟩⟩
/-- a node of kids that lie in a row. -/
theorem NdAt.row {X : Nat → Prop} {w : World} {k : Int} {t : ByteArray} {ks : List Nd} {a : Int} {b cap : Nat} (h0 : 0 < ks.length) (h1 : ks.length ≤ cap) (h2 : cap ≤ maxLen) (hX : X b) (hb : b < w.heap.size) (h : RwAt X w b 0 ks) :
    NdAt X w (.mk k t ks a) [.int .i64 k, .string t, .slice (some ⟨b, 0, none⟩) ks.length cap, .int .i64 a] := by
  rw [NdAt]; exact ⟨_, rfl, .inr ⟨b, cap, rfl, h0, h1, h2, hX, hb, h⟩⟩
theorem RwAt.one {X : Nat → Prop} {w : World} {b : Nat} {n : Nd} {c0 c1 c2 c3 : Value} (hb : Bx w b [c0, c1, c2, c3]) (h : NdAt X w n [c0, c1, c2, c3]) : RwAt X w b 0 [n] := by
  rw [RwAt]; exact ⟨⟨c0, c1, c2, c3, hb.c 0 rfl, hb.c 1 rfl, hb.c 2 rfl, hb.c 3 rfl, h⟩, by rw [RwAt]; trivial⟩
theorem RwAt.two {X : Nat → Prop} {w : World} {b : Nat} {n m : Nd} {c0 c1 c2 c3 d0 d1 d2 d3 : Value} (hb : Bx w b [c0, c1, c2, c3, d0, d1, d2, d3]) (h : NdAt X w n [c0, c1, c2, c3]) (h2 : NdAt X w m [d0, d1, d2, d3]) : RwAt X w b 0 [n, m] := by
  rw [RwAt]; exact ⟨⟨c0, c1, c2, c3, hb.c 0 rfl, hb.c 1 rfl, hb.c 2 rfl, hb.c 3 rfl, h⟩, by rw [RwAt]; exact ⟨⟨d0, d1, d2, d3, hb.c 4 rfl, hb.c 5 rfl, hb.c 6 rfl, hb.c 7 rfl, h2⟩, by rw [RwAt]; trivial⟩⟩

/-! ### tokens in memory -/
/-- block b holds these tokens. -/
def TR (w : World) (b : Nat) (T : List Tk) : Prop := b < w.heap.size ∧ ∀ i v, (flatT T)[i]? = some v → w.cell? ⟨b, i, none⟩ = some v
theorem TR.kp {g : Nat} {w W : World} {b : Nat} {T : List Tk} (h : TR w b T) (k : Kp g w W) (hb : b ≠ g) : TR W b T :=
  ⟨Nat.lt_of_lt_of_le h.1 k.size, fun i v e => (k.cell (p := ⟨b, i, none⟩) h.1 hb).trans (h.2 i v e)⟩
theorem TR.at {w : World} {b : Nat} {T pre L : List Tk} {p : Tk} (h : TR w b T) (e : T = pre ++ p :: L) :
    w.cell? ⟨b, pre.length * 3, none⟩ = some (.int .i64 p.1) ∧ w.cell? ⟨b, pre.length * 3 + 1, none⟩ = some (.string p.2.1) ∧ w.cell? ⟨b, pre.length * 3 + 2, none⟩ = some (.int .i64 p.2.2) := by
  have q := flatT_at T pre.length p (by rw [e]; simp)
  exact ⟨h.2 _ _ q.1, h.2 _ _ q.2.1, h.2 _ _ q.2.2⟩

/-- the parser in block g: tokens L of T are left, so deep it is. -/
structure PS (g b cap : Nat) (T : List Tk) (w : World) (L : List Tk) (d : Nat) : Prop where
  bx : ∃ (pre : List Tk) (a e : Int), T = pre ++ L ∧ Bx w g [.slice (some ⟨b, pre.length * 3, none⟩) L.length (cap - pre.length), .int .i64 (d : Int), .int .i64 a, .int .i64 e]
  tr : TR w b T
  ne : b ≠ g
  le : T.length ≤ cap
  most : cap ≤ maxLen
/-- the parser has failed. -/
def PF (g : Nat) (w : World) (d : Nat) (a e : Int) : Prop := ∃ left, Bx w g [left, .int .i64 (d : Int), .int .i64 a, .int .i64 e] ∧ left.oneCell' = true
theorem PS.lt {g b cap : Nat} {T : List Tk} {w : World} {L : List Tk} {d : Nat} (h : PS g b cap T w L d) : g < w.heap.size := by
  obtain ⟨_, _, _, _, h⟩ := h.bx; exact h.1

theorem PS.keep {g b cap : Nat} {T : List Tk} {w W : World} {L : List Tk} {d : Nat} (h : PS g b cap T w L d) (hs : w.heap.size ≤ W.heap.size) (k : ∀ c, c = g ∨ c = b → W.heap[c]? = w.heap[c]?) : PS g b cap T W L d := by
  obtain ⟨⟨pre, a, e, h1, h2⟩, h3, h4, h5, h6⟩ := h
  have q := k g (.inl rfl)
  exact ⟨⟨pre, a, e, h1, Nat.lt_of_lt_of_le h2.1 hs, fun i v hv => ⟨(World.cell?_of_block (w := w) (a := ⟨g, i, none⟩) q).trans (h2.2 i v hv).1, (World.frozen?_of_block (w := w) (a := ⟨g, i, none⟩) q).trans (h2.2 i v hv).2⟩⟩, ⟨Nat.lt_of_lt_of_le h3.1 hs, fun i v hv => (World.cell?_of_block (w := w) (a := ⟨b, i, none⟩) (k b (.inr rfl))).trans (h3.2 i v hv)⟩, h4, h5, h6⟩
theorem PS.below {g b cap : Nat} {T : List Tk} {w W : World} {L : List Tk} {d : Nat} (h : PS g b cap T w L d) (k : Below w.heap.size w W) : PS g b cap T W L d :=
  h.keep k.size fun c hc => k.block c (by rcases hc with rfl | rfl; exact h.lt; exact h.tr.1)
theorem PF.keep {g : Nat} {w W : World} {d : Nat} {a e : Int} (h : PF g w d a e) (hs : w.heap.size ≤ W.heap.size) (k : W.heap[g]? = w.heap[g]?) : PF g W d a e := by
  obtain ⟨l, h2, h3⟩ := h
  exact ⟨l, ⟨Nat.lt_of_lt_of_le h2.1 hs, fun i v hv => ⟨(World.cell?_of_block (w := w) (a := ⟨g, i, none⟩) k).trans (h2.2 i v hv).1, (World.frozen?_of_block (w := w) (a := ⟨g, i, none⟩) k).trans (h2.2 i v hv).2⟩⟩, h3⟩
theorem PS.off {g b cap : Nat} {T : List Tk} {w W : World} {L : List Tk} {d : Nat} (h : PS g b cap T w L d) {r : Nat} (k : ∀ c, c < w.heap.size → c ≠ r → W.heap[c]? = w.heap[c]?) (hz : w.heap.size ≤ W.heap.size) (h1 : g ≠ r) (h2 : b ≠ r) : PS g b cap T W L d :=
  h.keep hz fun c hc => by rcases hc with rfl | rfl; exact k _ h.lt h1; exact k _ h.tr.1 h2
theorem PF.off {g : Nat} {w W : World} {d : Nat} {a e : Int} (h : PF g w d a e) {r : Nat} (k : ∀ c, c < w.heap.size → c ≠ r → W.heap[c]? = w.heap[c]?) (hz : w.heap.size ≤ W.heap.size) (h1 : g ≠ r) : PF g W d a e :=
  h.keep hz (k g (by obtain ⟨_, h, _⟩ := h; exact h.1) h1)
theorem fold_alloc {g : Nat} {w : World} : ∀ (os : List Obj) (W : World), Kp g w W → (Kp g w (os.foldl World.alloc W) ∧ W.heap.size ≤ (os.foldl World.alloc W).heap.size ∧ (∀ k, k < W.heap.size → (os.foldl World.alloc W).heap[k]? = W.heap[k]?) ∧ ∀ b l, Bx W b l → Bx (os.foldl World.alloc W) b l)
  | [], W, h => ⟨h, Nat.le_refl _, fun _ _ => rfl, fun _ _ h => h⟩
  | o :: os, W, h => by
    obtain ⟨q1, q2, q3, q4⟩ := fold_alloc os (W.alloc o) (h.alloc o)
    refine ⟨q1, Nat.le_trans (by simp) q2, fun k hk => (q3 k (by simp; omega)).trans (Below.heap_alloc _ _ _ hk), fun b l hb => q4 b l (hb.alloc o)⟩
/-- a block of four cells, written whole, and others made behind. -/
theorem fin4 {g : Nat} {w W : World} {r : Nat} {z0 z1 z2 z3 : Value} (os : List Obj) (v0 v1 v2 v3 : Value) (hk : Kp g w W) (hr : w.heap.size ≤ r) (hb : Bx W r [z0, z1, z2, z3]) :
    Kp g w (os.foldl World.alloc (W.setCells r 0 [v0, v1, v2, v3])) ∧ Bx (os.foldl World.alloc (W.setCells r 0 [v0, v1, v2, v3])) r [v0, v1, v2, v3] ∧ (∀ k, k < W.heap.size → k ≠ r → (os.foldl World.alloc (W.setCells r 0 [v0, v1, v2, v3])).heap[k]? = W.heap[k]?) ∧ W.heap.size ≤ (os.foldl World.alloc (W.setCells r 0 [v0, v1, v2, v3])).heap.size := by
  have hz : (W.setCells r 0 [v0, v1, v2, v3]).heap.size = W.heap.size := setCells_size _ _ _ _
  obtain ⟨q1, q2, q3, q4⟩ := fold_alloc os (W.setCells r 0 [v0, v1, v2, v3]) (Kp.sets (.inr hr) _ _ _ hk)
  refine ⟨q1, q4 _ _ (hb.setAll _ rfl), fun k h0 h => (q3 k (by omega)).trans ?_, by omega⟩
  simp only [World.setCells]
  rw [Below.heap_setCell _ _ _ _ h, Below.heap_setCell _ _ _ _ h, Below.heap_setCell _ _ _ _ h, Below.heap_setCell _ _ _ _ h]

/-- what a method of the parser hands back. -/
def Out (g b cap : Nat) (T : List Tk) (X : Nat → Prop) (w' : World) (d : Nat) (e : Ending) : PR → Prop
  | .ok n l1 => PS g b cap T w' l1 d ∧ EndL l1 ∧ ∃ k t sq sn sc a, e = .returned (.tuple #[.agg #[.int .i64 k, .string t, .slice sq sn sc, .int .i64 a], .bool true]) ∧ NdAt X w' n [.int .i64 k, .string t, .slice sq sn sc, .int .i64 a]
  | .no a er => PF g w' d a er ∧ e = .returned (.tuple #[.agg #[.int .i64 0, .string ⟨#[]⟩, .slice none 0 0, .int .i64 0], .bool false])
end Go.Proofs.YtaoocecipacnhaaDoor
