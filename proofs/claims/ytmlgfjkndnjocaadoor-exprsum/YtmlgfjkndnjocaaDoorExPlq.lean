/- The places that expr.Parse names: within the text (mathematics). -/
import Derived.Test.YtmlgfjkndnjocaaDoorExStq
namespace Go.Proofs.YtmlgfjkndnjocaaDoor
open Go.RowKit
set_option linter.unusedVariables false

theorem split_lt (s : ByteArray) : ∀ (f pos : Nat) (l : List Prt) (a : Int) (i : Nat), splitF s f pos l a = .inl i → i < s.size
  | 0, pos, l, a, i, h => by simp [splitF] at h
  | f + 1, pos, l, a, i, h => by
    rw [splitF] at h
    split at h
    · split at h
      · simp only [Sum.inl.injEq] at h; omega
      · split at h
        · exact split_lt s f _ _ _ i h
        · split at h
          · exact split_lt s f _ _ _ i h
          · exact split_lt s f _ _ _ i h
    · exact absurd h (by simp)
/-- a place within the text; or at its end. -/
def Wi (s : ByteArray) (a : Int) : Prop := 0 ≤ a ∧ a < (s.size : Int)
def We (s : ByteArray) (a : Int) : Prop := 0 ≤ a ∧ a ≤ (s.size : Int)
theorem toks_pl (s : ByteArray) : ∀ (n : Nat) (L A : List Tk) (b : Nat), Od s b L → (∀ t ∈ A, Wi s t.2.2) →
    match toksF s n L A with
    | .inl i => Wi s i
    | .inr T => ∀ t ∈ T, (t.1 ≠ 0 → Wi s t.2.2) ∧ We s t.2.2
  | 0, L, A, b, ho, h => by
    rw [toksF]
    intro t ht
    simp only [List.mem_append, List.mem_singleton] at ht
    rcases ht with ht | rfl
    · exact ⟨fun _ => h t ht, (h t ht).1, Int.le_of_lt (h t ht).2⟩
    · exact ⟨fun q => absurd rfl q, by simp [We]⟩
  | n + 1, [], A, b, ho, h => by
    rw [toksF]
    intro t ht
    simp only [List.mem_append, List.mem_singleton] at ht
    rcases ht with ht | rfl
    · exact ⟨fun _ => h t ht, (h t ht).1, Int.le_of_lt (h t ht).2⟩
    · exact ⟨fun q => absurd rfl q, by simp [We]⟩
  | n + 1, p :: l, A, b, ho, h => by
    have hp : Wi s p.2.2 := by
      have := ho.1; have := ho.2.1; have := ho.2.2.1
      exact ⟨by omega, by omega⟩
    rw [toksF]
    by_cases hm : (fstT p l).2 = 0
    · rw [if_pos hm]; exact hp
    · rw [if_neg hm]
      refine toks_pl s n _ _ b (Od_drop _ _ _ ho) (fun t ht => ?_)
      simp only [List.mem_append, List.mem_singleton] at ht
      rcases ht with ht | rfl
      · exact h t ht
      · exact hp
theorem parse_pl (s : ByteArray) (hs : s.size ≤ 2048) : match parseB s with
    | .inl x => We s x.1 ∧ (x.2 = 21 → Wi s x.1) ∧ x.2 ≠ 0
    | .inr n => PlN (Wi s) n := by
  unfold parseB
  cases ht : toksB s with
  | inl x =>
    dsimp only
    unfold toksB at ht
    cases hp : splitB s with
    | inl i =>
      rw [hp] at ht
      simp only [Sum.inl.injEq] at ht; subst ht
      have := split_lt s _ _ _ _ i hp
      exact ⟨⟨by simp, by simp; omega⟩, fun _ => ⟨by simp, by simp; omega⟩, by simp⟩
    | inr P =>
      rw [hp] at ht
      dsimp only at ht
      have q := toks_pl s P.length (texts s P) [] 0 (Od_cov s P 0 _ (splitB_cov hp)) (by simp)
      cases hf : toksF s P.length (texts s P) [] with
      | inl i =>
        rw [hf] at ht q
        simp only [Sum.inl.injEq] at ht; subst ht
        exact ⟨⟨q.1, Int.le_of_lt q.2⟩, fun _ => q, by simp⟩
      | inr T => rw [hf] at ht; exact absurd ht (by simp)
  | inr T =>
    dsimp only
    obtain ⟨hE, _⟩ := toksB_end ht hs
    have hpl : ∀ t ∈ T, (t.1 ≠ 0 → Wi s t.2.2) ∧ We s t.2.2 := by
      unfold toksB at ht
      cases hp : splitB s with
      | inl i => rw [hp] at ht; exact absurd ht (by simp)
      | inr P =>
        rw [hp] at ht
        dsimp only at ht
        have q := toks_pl s P.length (texts s P) [] 0 (Od_cov s P 0 _ (splitB_cov hp)) (by simp)
        cases hf : toksF s P.length (texts s P) [] with
        | inl i => rw [hf] at ht; exact absurd ht (by simp)
        | inr T' =>
          rw [hf] at ht q
          simp only [Sum.inr.injEq] at ht; subst ht
          exact q
    have hG := par_good (Wi s) (We s) (10 * T.length + 10) (.lv 0) 0 T (by simp [okTg]) ⟨hE, fun p hp => (hpl p hp).1, fun p hp => (hpl p hp).2⟩ (by simp [PlT]) (by simp [need])
    cases hp : par (10 * T.length + 10) (.lv 0) 0 T with
    | no a e =>
      rw [hp] at hG
      refine ⟨hG.2, fun h21 => ?_, ?_⟩
      · have h0 : e = 21 := h21
        have := hG.1
        omega
      · show e ≠ 0
        have := hG.1
        omega
    | ok n l1 =>
      rw [hp] at hG
      obtain ⟨h1, _, ⟨pre, h2⟩, h3⟩ := hG
      obtain ⟨q, l1, rfl⟩ := h1.cons
      have hq : We s q.2.2 := (hpl q (by rw [h2]; simp)).2
      cases hi : isT q [(0, ⟨#[]⟩)] with
      | false =>
        rw [show endT (.ok n (q :: l1)) = .inl (q.2.2, 30) by simp [endT, hi]]
        exact ⟨hq, fun h => absurd h (by simp), by simp⟩
      | true =>
        rw [show endT (.ok n (q :: l1)) = .inr n by simp [endT, hi]]
        exact h3

theorem PlN.mono {S R : Int → Prop} (h : ∀ a, S a → R a) {n : Nd} (hn : PlN S n) : PlN R n := by
  induction hn with
  | mk k t ks a ha hk ih => exact .mk k t ks a (h a ha) ih

end Go.Proofs.YtmlgfjkndnjocaaDoor
