/- What the lines of the reference's grammar keep. -/
import Derived.Test.YtaoocecipacnhaaDoorRxBq
import Derived.Test.YtaoocecipacnhaaDoorExPq
import Derived.Deep.RegionHeld3
namespace Go.Proofs.YtaoocecipacnhaaDoor
open Go.RowKit
set_option linter.unusedVariables false

theorem gen_anyR {P : Program} {md : Region.Mode} {ops : Array Oper} {Q : Exit → Act → World → Prop} {S : World → Prop} {fuel : Nat} {listed : Array Bool} {a : Act} {w1 : World} (T : World → Prop) (h : T w1)
    (k : ∀ w2, T w2 → wpAnyH P md ops Q S fuel listed a w2) : wpAnyH P md ops Q S fuel listed a w1 := k _ h
def Z4 : List Value := [.int .i64 0, .string ⟨#[]⟩, .slice none 0 0, .int .i64 0]
/-- what a line of the reference's grammar hands back. -/
def ROut (g b lo cap : Nat) (T : List Tk) (X : Nat → Prop) (w' : World) (d : Nat) (e : Ending) : PR → Prop
  | .ok n l1 => ∃ L1, l1 = mL L1 ∧ RS g b cap T w' L1 d ∧ EndL (mL L1) ∧ ∃ k t sq sn sc a, e = .returned (.agg #[.int .i64 k, .string t, .slice sq sn sc, .int .i64 a]) ∧ NdAt X w' n [.int .i64 k, .string t, .slice sq sn sc, .int .i64 a]
  | .no a er => er ≠ 0 ∧ RF g b lo w' a er ∧ ∃ k t sq sn sc z, e = .returned (.agg #[.int .i64 k, .string t, .slice sq sn sc, .int .i64 z])
/-- a line of the grammar. -/
def RLv (g b cap : Nat) (T : List Tk) (lev N : Nat) : Prop :=
  ∀ (w : World) (L : List Tk) (d f : Nat), RS g b cap T w L d → EndL (mL L) → d ≤ 20 → L.length ≤ N → need (.lv lev) (mL L) ≤ f →
    Calls Tryd.prog 18 #[.pointer (some ⟨g, 0, none⟩), .int .i64 (lev : Int)] w fun e w' => Kp g w w' ∧ ROut g b w.heap.size cap T (fun c => w.heap.size ≤ c) w' d e (par f (.lv lev) d (mL L))
theorem mL_len (L : List Tk) : (mL L).length = L.length := by unfold mL; simp
theorem mL_none {L : List Tk} (h : EndL (mL L)) : ∃ r L', L = r :: L' := by
  cases L with
  | nil => exact h.elim
  | cons r L => exact ⟨r, L, rfl⟩
theorem RS.good {g b cap : Nat} {T : List Tk} {w : World} {r : Tk} {L : List Tk} {d : Nat} (h : RS g b cap T w (r :: L) d) (hG : ∀ x ∈ T, GoodT x) : GoodT r := by
  obtain ⟨pre, _, e, _⟩ := h.bx
  exact hG r (by rw [e]; simp)
theorem RS.drew {g b cap : Nat} {T : List Tk} {w : World} {L : List Tk} {d : Nat} (h : RS g b cap T w L d) : RS g b cap T w.drew L d := h.keep (Nat.le_refl _) (fun _ _ => rfl)
theorem NdAt.drewR {X : Nat → Prop} {w : World} {n : Nd} {cs : List Value} (h : NdAt X w n cs) : NdAt X w.drew n cs := NdAt.keep (w := w) (W := w.drew) (Nat.le_refl _) (fun b hb _ => ⟨hb, rfl⟩) _ _ h
theorem RF.off {g b lo : Nat} {w W : World} {a e : Int} (h : RF g b lo w a e) {r : Nat} (k : ∀ c, c < w.heap.size → c ≠ r → W.heap[c]? = w.heap[c]?) (hz : w.heap.size ≤ W.heap.size) (h1 : g ≠ r) (h2 : b ≠ r) (h3 : r < lo) : RF g b lo W a e := by
  obtain ⟨c, o, n, m, D, kk, z, t, h0, hb, i2, i3, i4, i5, i6, i7, hD, i8, i9, i10⟩ := h
  have q := k c i6 (by omega)
  have qg := k g hb.1 h1
  exact ⟨c, o, n, m, D, kk, z, t, h0, ⟨Nat.lt_of_lt_of_le hb.1 hz, fun i v hv => ⟨(World.cell?_of_block (w := w) (a := ⟨g, i, none⟩) qg).trans (hb.2 i v hv).1, (World.frozen?_of_block (w := w) (a := ⟨g, i, none⟩) qg).trans (hb.2 i v hv).2⟩⟩, i2, i3, i4, i5, Nat.lt_of_lt_of_le i6 hz, i7, hD,
    (World.cell?_of_block (w := w) (a := ⟨c, o, none⟩) q).trans i8, (World.cell?_of_block (w := w) (a := ⟨c, o + 1, none⟩) q).trans i9, (World.cell?_of_block (w := w) (a := ⟨c, o + 2, none⟩) q).trans i10⟩

/-- a chain under way: its result's block, its node in block B. -/
def CR (g b cap : Nat) (T : List Tk) (w : World) (B d : Nat) (L : List Tk) (n : Nd) (c0 c1 c2 c3 : Value) (V : World) : Prop :=
  Kp g w V ∧ Bx V w.heap.size [.int .i64 0, .string ⟨#[]⟩, .slice none 0 0, .int .i64 0] ∧ Bx V B [c0, c1, c2, c3] ∧ RS g b cap T V L d ∧ NdAt (fun c => w.heap.size + 1 ≤ c ∧ c ≠ B) V n [c0, c1, c2, c3] ∧ w.heap.size + 1 ≤ B ∧ EndL (mL L)
theorem CR.drew {g b cap : Nat} {T : List Tk} {w : World} {B d : Nat} {L : List Tk} {n : Nd} {c0 c1 c2 c3 : Value} {V : World} (h : CR g b cap T w B d L n c0 c1 c2 c3 V) : CR g b cap T w B d L n c0 c1 c2 c3 V.drew :=
  ⟨h.1.drew, h.2.1, h.2.2.1, h.2.2.2.1.drew, h.2.2.2.2.1.drewR, h.2.2.2.2.2⟩
theorem CR.kp {g b cap : Nat} {T : List Tk} {w : World} {B d : Nat} {L L' : List Tk} {n : Nd} {c0 c1 c2 c3 : Value} {V V' : World} (h : CR g b cap T w B d L n c0 c1 c2 c3 V) (hg : g < w.heap.size) (hk : Kp g V V') (hp : RS g b cap T V' L' d) (he : EndL (mL L')) : CR g b cap T w B d L' n c0 c1 c2 c3 V' :=
  ⟨h.1.trans hk, hk.bx h.2.1 (by omega), hk.bx h.2.2.1 (by have := h.2.2.2.2.2.1; omega), hp, h.2.2.2.2.1.kp hk (fun c hc => ⟨hc, by omega⟩), h.2.2.2.2.2.1, he⟩
/-- its node is another one now. -/
theorem CR.put {g b cap : Nat} {T : List Tk} {w : World} {B d : Nat} {L L' : List Tk} {n n' : Nd} {c0 c1 c2 c3 d0 d1 d2 d3 : Value} {V V' : World} (h : CR g b cap T w B d L n c0 c1 c2 c3 V) (hg : g < w.heap.size) (hbl : b < w.heap.size) (hk : Kp g V V') (hp : RS g b cap T V' L' d) (he : EndL (mL L'))
    (hn : NdAt (fun c => (w.heap.size + 1 ≤ c ∧ c ≠ B) ∨ V.heap.size ≤ c) V' n' [d0, d1, d2, d3]) : CR g b cap T w B d L' n' d0 d1 d2 d3 (V'.setCells B 0 [d0, d1, d2, d3]) := by
  have hB := h.2.2.1.1
  have hB2 := h.2.2.2.2.2.1
  have hB' := hk.bx h.2.2.1 (by omega)
  obtain ⟨q1, q2, q3, q4⟩ := fin4 [] d0 d1 d2 d3 (h.1.trans hk) (by omega) hB'
  have hz := h.1.size
  have hz2 := h.2.1.1
  exact ⟨q1, (hk.bx h.2.1 (by omega)).setOther (by omega) _, q2, hp.off q3 q4 (by omega) (by omega), hn.off q3 q4 (fun c hc => ⟨by omega, by omega⟩), hB2, he⟩

end Go.Proofs.YtaoocecipacnhaaDoor
