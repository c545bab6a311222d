/- All tokens of a text: mathematics. -/
import Derived.Test.YtaoocecipacnhaaDoorExEq
namespace Go.Proofs.YtaoocecipacnhaaDoor
open Go.RowKit
set_option linter.unusedVariables false

theorem toQ_le : ∀ (n : Nat) (l : List Tk) (i : Nat), l.length ≤ n → toQ i l ≤ i + l.length
  | _, [], i, _ => by simp [toQ]
  | _, [p], i, _ => by simp only [toQ]; split <;> simp
  | 0, p :: q :: l, i, h => by simp at h
  | n + 1, p :: q :: l, i, h => by
    simp only [List.length_cons] at h
    have h1 := toQ_le n l (i + 2) (by omega)
    have h2 := toQ_le n (q :: l) (i + 1) (by simp only [List.length_cons]; omega)
    simp only [List.length_cons] at h2
    simp only [toQ, List.length_cons]
    split
    · split <;> omega
    · omega
theorem toQ_ge : ∀ (n : Nat) (l : List Tk) (i : Nat), l.length ≤ n → toQ i l = 0 ∨ i + 1 ≤ toQ i l
  | _, [], i, _ => by simp [toQ]
  | _, [p], i, _ => by simp only [toQ]; split <;> simp
  | 0, p :: q :: l, i, h => by simp at h
  | n + 1, p :: q :: l, i, h => by
    simp only [List.length_cons] at h
    have h1 := toQ_ge n l (i + 2) (by omega)
    have h2 := toQ_ge n (q :: l) (i + 1) (by simp only [List.length_cons]; omega)
    simp only [toQ]
    split
    · split
      · omega
      · omega
    · omega
theorem toS_le : ∀ (l : List Tk) (m : Nat) (p : Tk), m ≤ toS m p l ∧ toS m p l ≤ m + l.length
  | [], m, p => by simp [toS]
  | q :: l, m, p => by
    have h := toS_le l (m + 1) q
    simp only [toS, List.length_cons]
    split <;> omega
theorem fst_le (p : Tk) (l : List Tk) : (fstT p l).2 ≤ l.length + 1 := by
  unfold fstT
  split
  · have := toQ_le _ l 1 (Nat.le_refl _); simp only; omega
  · split
    · have := toS_le l 1 p; simp only; omega
    · split
      · cases l with
        | nil => simp [prT]
        | cons q l => simp only [List.length_cons]; split <;> omega
      · split
        · rename_i h
          match l, h with
          | q :: r :: l, _ => simp only [List.length_cons]; omega
          | [q], h => simp [dcT] at h
          | [], h => simp [dcT] at h
        · simp
theorem fst_3 (p : Tk) (l : List Tk) (h : (fstT p l).1 = 3) : (fstT p l).2 = 0 ∨ 2 ≤ (fstT p l).2 := by
  unfold fstT at h ⊢
  split
  · have := toQ_ge _ l 1 (Nat.le_refl _); simp only; omega
  · rename_i h0
    rw [if_neg h0] at h
    exfalso
    split at h
    · simp at h
    · split at h
      · simp at h
      · split at h <;> simp at h

/-- parts in order within a text. -/
def Od (s : ByteArray) : Nat → List Tk → Prop
  | _, [] => True
  | a, p :: l => (a : Int) ≤ p.2.2 ∧ 0 < p.2.1.size ∧ p.2.2 + (p.2.1.size : Int) ≤ (s.size : Int) ∧ Od s (p.2.2.toNat + p.2.1.size) l
theorem Od_cov (s : ByteArray) : ∀ (P : List Prt) (a z : Nat), Cov s a P z → Od s a (texts s P)
  | [], a, z, h => trivial
  | p :: P, a, z, h => by
    obtain ⟨h1, h2, h3, h4, h5⟩ := h
    have q := Od_cov s P _ _ h5
    have hz : (s.extract p.2.1 p.2.2).size = p.2.2 - p.2.1 := by rw [ByteArray.size_extract]; omega
    refine ⟨by show (a : Int) ≤ (p.2.1 : Int); omega, by show 0 < (s.extract p.2.1 p.2.2).size; omega, by show (p.2.1 : Int) + ((s.extract p.2.1 p.2.2).size : Int) ≤ _; omega, ?_⟩
    show Od s ((p.2.1 : Int).toNat + (s.extract p.2.1 p.2.2).size) _
    rw [hz, show (p.2.1 : Int).toNat + (p.2.2 - p.2.1) = p.2.2 by omega]
    exact q
theorem Od_mono {s : ByteArray} {a b : Nat} {L : List Tk} (h : Od s a L) (hb : b ≤ a) : Od s b L := by
  cases L with
  | nil => trivial
  | cons p l => exact ⟨by have := h.1; omega, h.2⟩
theorem Od_drop {s : ByteArray} : ∀ (m a : Nat) (L : List Tk), Od s a L → Od s a (L.drop m)
  | 0, a, L, h => h
  | m + 1, a, [], h => trivial
  | m + 1, a, p :: l, h => Od_mono (Od_drop m _ l h.2.2.2) (by have := h.1; omega)
theorem Od_at {s : ByteArray} : ∀ (i a : Nat) (L : List Tk) (q : Tk), Od s a L → L[i]? = some q → ((a + i : Nat) : Int) ≤ q.2.2 ∧ 0 < q.2.1.size ∧ q.2.2 + (q.2.1.size : Int) ≤ (s.size : Int)
  | _, a, [], q, h, e => by simp at e
  | 0, a, p :: l, q, h, e => by simp at e; subst e; exact ⟨h.1, h.2.1, h.2.2.1⟩
  | i + 1, a, p :: l, q, h, e => by
    have r := Od_at i _ l q h.2.2.2 (by simpa using e)
    have := h.1; have := h.2.1
    exact ⟨by omega, r.2⟩
/-- where the i-th part ends. -/
def endN (L : List Tk) (i : Nat) : Nat := match L[i]? with | some q => q.2.2.toNat + q.2.1.size | none => 0
theorem end_at {s : ByteArray} {a : Nat} {p : Tk} {l : List Tk} (h : Od s a (p :: l)) {m : Nat} (h1 : 1 ≤ m) (h2 : m ≤ l.length + 1) : ∃ q : Tk, (p :: l)[m - 1]? = some q ∧ endN (p :: l) (m - 1) = q.2.2.toNat + q.2.1.size ∧ 0 ≤ p.2.2 ∧ 0 ≤ q.2.2 ∧ p.2.2.toNat + m ≤ q.2.2.toNat + q.2.1.size ∧ q.2.2.toNat + q.2.1.size ≤ s.size := by
  obtain ⟨q, hq⟩ : ∃ q, (p :: l)[m - 1]? = some q := ⟨(p :: l)[m - 1]'(by simp; omega), List.getElem?_eq_getElem _⟩
  refine ⟨q, hq, by unfold endN; rw [hq], by have := h.1; omega, ?_⟩
  have ha := h.1
  have hb := h.2.1
  have r := Od_at _ _ _ _ h hq
  refine ⟨by omega, ?_, by omega⟩
  rcases Nat.lt_or_ge m 2 with hm | hm
  · obtain rfl : m = 1 := by omega
    simp at hq; subst hq; omega
  · have r2 := Od_at (m - 2) _ l q h.2.2.2 (by rw [show m - 1 = (m - 2) + 1 by omega] at hq; simpa using hq)
    omega
/-- the first token. -/
def tokT (s : ByteArray) (p : Tk) (l : List Tk) : Tk := ((fstT p l).1, saidT (fstT p l).1 (s.extract p.2.2.toNat (endN (p :: l) ((fstT p l).2 - 1))), p.2.2)
/-- all tokens of parts, behind those at hand; or the place of what is none. -/
def toksF (s : ByteArray) : Nat → List Tk → List Tk → Sum Int (List Tk)
  | 0, _, A => .inr (A ++ [(0, ⟨#[]⟩, (s.size : Int))])
  | _ + 1, [], A => .inr (A ++ [(0, ⟨#[]⟩, (s.size : Int))])
  | n + 1, p :: l, A => if (fstT p l).2 = 0 then .inl p.2.2 else toksF s n ((p :: l).drop (fstT p l).2) (A ++ [tokT s p l])
/-- a text's tokens; or a place and an error. -/
def toksB (s : ByteArray) : Sum (Int × Int) (List Tk) :=
  match splitB s with
  | .inl i => .inl (i, 21)
  | .inr P => match toksF s P.length (texts s P) [] with
    | .inl i => .inl (i, 30)
    | .inr T => .inr T

end Go.Proofs.YtaoocecipacnhaaDoor
