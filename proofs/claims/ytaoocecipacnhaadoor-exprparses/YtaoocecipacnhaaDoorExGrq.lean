/- The grammar of expressions in brackets: mathematics. -/
import Derived.Test.YtaoocecipacnhaaDoorExCtq
import Derived.Test.YtaoocecipacnhaaDoorExPq
namespace Go.Proofs.YtaoocecipacnhaaDoor
open Go.RowKit
set_option linter.unusedVariables false

/-! ### more fuel -/
/-! ### up from a line of the grammar to the one above -/
/-! ### brackets -/
theorem EndL.init : ∀ {A : List Tk} {e : Tk}, EndL (A ++ [e]) → ∀ t ∈ A, t.1 ≠ 0
  | [], e, h, t, ht => by simp at ht
  | [p], e, h, t, ht => by simp at ht; subst ht; exact h.1
  | p :: q :: A, e, h, t, ht => by
    rcases List.mem_cons.1 ht with rfl | ht
    · exact h.1
    · exact EndL.init (A := q :: A) (e := e) h.2 t ht
/-- a text's tokens, where it is an expression. -/
theorem parse_toks {s : ByteArray} {n : Nd} (hs : s.size ≤ 2048) (h : parseB s = .inr n) : ∃ A e, toksB s = .inr (A ++ [(0, ⟨#[]⟩, (s.size : Int))]) ∧ (∀ t ∈ A, t.1 ≠ 0) ∧ e.1 = 0 ∧ par (10 * (A.length + 1) + 10) (.lv 0) 0 (A ++ [(0, ⟨#[]⟩, (s.size : Int))]) = .ok n [e] := by
  unfold parseB at h
  cases ht : toksB s with
  | inl x => rw [ht] at h; exact absurd h (by simp)
  | inr T =>
    rw [ht] at h
    dsimp only at h
    obtain ⟨P, hp, hf⟩ := toksB_get ht
    obtain ⟨A, _, e0, _⟩ := toks_left s (⟨#[]⟩ : ByteArray) (M := []) trivial P.length (texts s P).length (texts s P) [] T 0 (Od_cov s P 0 _ (splitB_cov hp)) (by rw [texts_length]; omega) (by simp) hf
    subst e0
    have hE := (toksB_end ht hs).1
    cases hr : par (10 * (A ++ [((0, ⟨#[]⟩, (s.size : Int)) : Tk)]).length + 10) (.lv 0) 0 (A ++ [((0, ⟨#[]⟩, (s.size : Int)) : Tk)]) with
    | no a e => rw [hr] at h; simp [endT] at h
    | ok m l1 =>
      rw [hr] at h
      have hl := par_less (by simp [okTg]) hE (by simp [need]) hr
      cases l1 with
      | nil => exact hl.1.elim
      | cons q l1 =>
        rw [endT] at h
        by_cases hq : isT q [(0, ⟨#[]⟩)] = true
        · rw [if_pos hq] at h
          simp only [Sum.inr.injEq] at h; subst h
          have hq0 : q.1 = 0 := by
            obtain ⟨x, hx, hd⟩ := List.any_eq_true.1 hq
            simp at hx; subst hx
            exact (of_decide_eq_true hd).1
          cases l1 with
          | nil => exact ⟨A, q, rfl, EndL.init hE, hq0, by simpa using hr⟩
          | cons u l2 => exact absurd hq0 hl.1.1
        · rw [if_neg hq] at h; exact absurd h (by simp)
end Go.Proofs.YtaoocecipacnhaaDoor
