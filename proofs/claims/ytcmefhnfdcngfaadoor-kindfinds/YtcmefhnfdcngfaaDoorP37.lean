import Derived.Test.YtcmefhnfdcngfaaDoorP36
/- A node's text as a function; expr.writeKids over what writing a kid owes. -/
namespace Go.Proofs.YtcmefhnfdcngfaaDoor
open Go.RowKit
set_option linter.unusedVariables false

mutual
/-- no text of it is long. -/
def tzN : Nd → Bool
  | .mk _ t ks _ => decide (t.size ≤ 100000) && tzL ks
def tzL : List Nd → Bool
  | [] => true
  | n :: l => tzN n && tzL l
end
theorem tzL_mem : ∀ {l : List Nd}, tzL l = true → ∀ n ∈ l, tzN n = true
  | [], _, n, hn => by simp at hn
  | m :: l, h, n, hn => by
    rw [tzL, Bool.and_eq_true] at h
    rcases List.mem_cons.1 hn with rfl | hn
    · exact h.1
    · exact tzL_mem h.2 n hn
mutual
theorem PlN.all : ∀ n : Nd, PlN (fun _ => True) n
  | .mk k t ks a => .mk k t ks a trivial (PlN.alls ks)
theorem PlN.alls : ∀ l : List Nd, ∀ n ∈ l, PlN (fun _ => True) n
  | [], n, h => by simp at h
  | m :: l, n, h => (List.mem_cons.1 h).elim (fun e => e ▸ PlN.all m) (fun q => PlN.alls l n q)
end
theorem built_at {T e : TypeId} {B b : Nat} {p : Value} {bs : List Value} {W W1 : World} (h : Lib.BuilderAtF T e B b p bs W) (hb : Below W.heap.size W W1) : Lib.BuilderAtF T e B b p bs W1 := by
  obtain ⟨hB, v, hh, ho, hne⟩ := h
  refine ⟨hB, v, (hb.block _ (Array.getElem?_eq_some_iff.1 hh).1).trans hh, ⟨ho.1, ?_⟩, hne⟩
  rcases ho.2 with h0 | ⟨g, cap, cur, fz, e0, h1, h2, h3⟩
  · exact .inl h0
  · exact .inr ⟨g, cap, cur, fz, e0, h1, (hb.block _ (Array.getElem?_eq_some_iff.1 h2).1).trans h2, h3⟩
theorem built_below {T e : TypeId} {B b : Nat} {bs : List Value} {W W1 : World} (h : Lib.IsBuilderF T e B b bs W) (hb : Below W.heap.size W W1) : Lib.IsBuilderF T e B b bs W1 :=
  h.elim (fun x => .inl (built_at x hb)) (fun x => .inr (built_at x hb))
/-- the text is written so far, from block B on; what lay below stays. -/
def WB (B b : Nat) (w : World) (l : List UInt8) (W : World) : Prop := Lib.IsBuilderF 113 5 B b (Lib.byteCells l) W ∧ Below B w W ∧ B ≤ w.heap.size
theorem WB.le {B b : Nat} {w W : World} {l : List UInt8} (h : WB B b w l W) : B ≤ W.heap.size := Nat.le_trans h.2.2 h.2.1.size
theorem WB.alloc {B b : Nat} {w W : World} {l : List UInt8} (h : WB B b w l W) (o : Obj) : WB B b w l (W.alloc o) := ⟨h.1.alloc _, h.2.1.alloc h.le _, h.2.2⟩
theorem WB.below {B b : Nat} {w W V : World} {l : List UInt8} (h : WB B b w l W) (k : Below W.heap.size W V) : WB B b w l V := ⟨built_below h.1 k, h.2.1.trans (k.mono h.le), h.2.2⟩
theorem WB.start {B b : Nat} {w : World} {l : List UInt8} (h : Lib.IsBuilderF 113 5 B b (Lib.byteCells l) w) (hB : B ≤ w.heap.size) : WB B b w l w := ⟨h, Below.refl _ _, hB⟩
theorem WB.trans {B b : Nat} {w W V : World} {l m : List UInt8} (h : WB B b w l W) (k : WB B b W m V) : WB B b w m V := ⟨k.1, h.2.1.trans k.2.1, h.2.2⟩

end Go.Proofs.YtcmefhnfdcngfaaDoor
