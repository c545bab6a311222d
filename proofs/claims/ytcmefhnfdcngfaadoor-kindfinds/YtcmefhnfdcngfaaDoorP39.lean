import Derived.Test.YtcmefhnfdcngfaaDoorP38
import Derived.Test.YtcmefhnfdcngfaaDoorP36
/- The reference's Same of two nodes that are alike. -/
namespace Go.Proofs.YtcmefhnfdcngfaaDoor
open Go.RowKit
set_option linter.unusedVariables false

theorem F2.get {α β : Type} {R : α → β → Prop} {l : List α} {m : List β} (h : F2 R l m) : ∀ {j : Nat} {x : α}, l[j]? = some x → ∃ y, m[j]? = some y ∧ R x y := by
  induction h with
  | nil => intro j x e; simp at e
  | @cons a b l m h1 h2 ih =>
    intro j x e
    cases j with
    | zero => simp at e; subst e; exact ⟨b, rfl, h1⟩
    | succ j => exact ih (by simpa using e)
theorem F2.length {α β : Type} {R : α → β → Prop} {l : List α} {m : List β} (h : F2 R l m) : l.length = m.length := by
  induction h with
  | nil => rfl
  | cons h1 h2 ih => simp [ih]
theorem F2.imp {α β : Type} {R Q : α → β → Prop} {l : List α} {m : List β} (h : F2 R l m) (H : ∀ x ∈ l, ∀ y, R x y → Q x y) : F2 Q l m := by
  induction h with
  | nil => exact .nil
  | cons h1 h2 ih => exact .cons (H _ (by simp) _ h1) (ih (fun x hx y => H x (by simp [hx]) y))
theorem F2.refl {α : Type} {R : α → α → Prop} : ∀ {l : List α}, (∀ x ∈ l, R x x) → F2 R l l
  | [], _ => .nil
  | x :: l, h => .cons (h x (by simp)) (F2.refl (fun y hy => h y (by simp [hy])))
/-- the same, with places, or without. -/
inductive AlP (pl : Bool) : Nd → Nd → Prop where
  | mk (k : Int) (t : ByteArray) (ks ls : List Nd) (a b : Int) (h : F2 (AlP pl) ks ls) (hp : pl = true → a = b) : AlP pl (.mk k t ks a) (.mk k t ls b)
theorem AlN.p (n : Nd) : ∀ m, AlN n m → AlP false n m := by
  have hn := PlN.all n
  induction hn with
  | mk k t ks a ha hk ih =>
    intro m h
    cases h with
    | mk _ _ _ ls _ b h => exact .mk k t ks ls a b (h.imp (fun x hx y hxy => ih x hx y hxy)) (by simp)
theorem AlP.refl (pl : Bool) (n : Nd) : AlP pl n n := by
  have hn := PlN.all n
  induction hn with
  | mk k t ks a ha hk ih => exact .mk k t ks ks a a (F2.refl ih) (fun _ => rfl)
theorem AlP.symm (n : Nd) : ∀ m, AlP false m n → AlP false n m := by
  have hn := PlN.all n
  induction hn with
  | mk k t ks a ha hk ih =>
    intro m h
    cases h with
    | mk _ _ ls _ b _ h _ =>
      refine .mk k t ks ls a b ?_ (by simp)
      clear ha hk
      induction h with
      | nil => exact .nil
      | cons h1 h2 i => exact .cons (ih _ (by simp) _ h1) (i (fun x hx => ih x (by simp [hx])))

theorem NdAt.kids {X : Nat → Prop} {w : World} {k : Int} {t : ByteArray} {ks : List Nd} {a : Int} {c0 c1 c2 c3 : Value} (h : NdAt X w (.mk k t ks a) [c0, c1, c2, c3]) : c0 = .int .i64 k ∧ c1 = .string t ∧ c3 = .int .i64 a ∧ ∃ sq sc, c2 = .slice sq ks.length sc ∧ ks.length ≤ 9223372036854775807 ∧ Hid (∀ j n, ks[j]? = some n → ∃ b, sq = some ⟨b, 0, none⟩ ∧ ks.length ≤ sc ∧ X b ∧ b < w.heap.size ∧ ∃ d0 d1 d2 d3, w.cell? ⟨b, j * 4, none⟩ = some d0 ∧ w.cell? ⟨b, j * 4 + 1, none⟩ = some d1 ∧ w.cell? ⟨b, j * 4 + 2, none⟩ = some d2 ∧ w.cell? ⟨b, j * 4 + 3, none⟩ = some d3 ∧ NdAt X w n [d0, d1, d2, d3]) := by
  rw [NdAt] at h
  obtain ⟨sv, hcs, hv⟩ := h
  simp only [List.cons.injEq, and_true] at hcs
  obtain ⟨rfl, rfl, rfl, rfl⟩ := hcs
  refine ⟨rfl, rfl, rfl, ?_⟩
  rcases hv with ⟨q1, q2⟩ | ⟨b, cap, e1, e0, e2, e3, e4, e5, e6⟩
  · subst q1; exact ⟨none, 0, q2, by simp, fun j n e => by simp at e⟩
  · refine ⟨some ⟨b, 0, none⟩, cap, e1, by unfold maxLen at e3; omega, fun j n e => ⟨b, rfl, e2, e4, e5, ?_⟩⟩
    have q := RwAt.get ks 0 j n e6 e
    rw [Nat.zero_add] at q
    exact q

end Go.Proofs.YtcmefhnfdcngfaaDoor
