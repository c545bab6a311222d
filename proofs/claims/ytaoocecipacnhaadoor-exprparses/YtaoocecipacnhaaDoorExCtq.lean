/- Tokens of texts that are put together, with a bracket between: mathematics. -/
import Derived.Test.YtaoocecipacnhaaDoorExHq
namespace Go.Proofs.YtaoocecipacnhaaDoor
open Go.RowKit
set_option linter.unusedVariables false

/-! ### parts -/
/-! ### their texts -/
theorem ext_left (a c : ByteArray) (i j : Nat) (h : j ≤ a.size) : (a ++ c).extract i j = a.extract i j := by
  rw [ByteArray.extract_append, show j - a.size = 0 by omega]
  have : c.extract (i - a.size) 0 = ByteArray.empty := by
    apply ByteArray.ext; simp
  rw [this]; simp
/-! ### the same parts further on -/
/-! ### the same parts with a bracket behind them -/
def HdS : List Tk → Prop
  | [] => True
  | q :: _ => q.1 = 3 ∧ (q.2.1 = ⟨#[40]⟩ ∨ q.2.1 = ⟨#[41]⟩)
theorem HdS.qt {q : Tk} {M : List Tk} (h : HdS (q :: M)) : qt q = false := by
  unfold Go.Proofs.YtaoocecipacnhaaDoor.qt
  rw [decide_eq_false_iff_not]
  intro e
  rcases h.2 with f | f <;> (rw [f] at e; exact absurd e (by decide))
theorem isPr_br (t : ByteArray) {u : ByteArray} (h : u = ⟨#[40]⟩ ∨ u = ⟨#[41]⟩) : isPr (t ++ u) = false := by
  have k : ∀ (x y : UInt8), y ≠ 40 → y ≠ 41 → t ++ u ≠ ⟨#[x, y]⟩ := by
    intro x y h0 h1 e
    have q := congrArg (fun b : ByteArray => b.data.toList.getLast?) e
    rcases h with rfl | rfl
    · simp at q; exact h0 q.symm
    · simp at q; exact h1 q.symm
  unfold isPr
  simp only [Bool.or_eq_false_iff, decide_eq_false_iff_not]
  exact ⟨⟨⟨k _ _ (by decide) (by decide), k _ _ (by decide) (by decide)⟩, k _ _ (by decide) (by decide)⟩, k _ _ (by decide) (by decide)⟩
theorem toQ_app {M : List Tk} (hM : HdS M) : ∀ (k : Nat) (l : List Tk) (i : Nat), l.length ≤ k → toQ i l ≠ 0 → toQ i (l ++ M) = toQ i l
  | _, [], i, _, h => by simp [toQ] at h
  | _, [p], i, _, h => by
    cases M with
    | nil => rfl
    | cons q M =>
      rw [toQ] at h ⊢
      by_cases hp : qt p = true
      · rw [if_pos hp, List.cons_append, List.nil_append, toQ, if_pos hp, hM.qt]; simp
      · rw [if_neg hp] at h; exact absurd rfl h
  | 0, p :: q :: l, i, h, _ => by simp at h
  | k + 1, p :: q :: l, i, h, hz => by
    simp only [List.length_cons] at h
    rw [toQ] at hz
    rw [List.cons_append, List.cons_append, toQ, toQ]
    by_cases hp : qt p = true
    · rw [if_pos hp] at hz ⊢
      rw [if_pos hp]
      by_cases hq : (besT p q && qt q) = true
      · rw [if_pos hq] at hz ⊢
        rw [if_pos hq]
        exact toQ_app hM k l _ (by omega) hz
      · rw [if_neg hq, if_neg hq]
    · rw [if_neg hp] at hz ⊢
      rw [if_neg hp]
      exact toQ_app hM k (q :: l) _ (by simp only [List.length_cons]; omega) hz
theorem toS_app {M : List Tk} (hM : HdS M) : ∀ (l : List Tk) (m : Nat) (p : Tk), toS m p (l ++ M) = toS m p l
  | [], m, p => by
    cases M with
    | nil => rfl
    | cons q M => rw [List.nil_append]; simp [toS, hM.1]
  | q :: l, m, p => by rw [List.cons_append, toS, toS, toS_app hM l]
theorem prT_app {M : List Tk} (hM : HdS M) (p : Tk) (l : List Tk) : prT p (l ++ M) = prT p l := by
  cases l with
  | nil =>
    cases M with
    | nil => rfl
    | cons q M => rw [List.nil_append, prT, prT, isPr_br _ hM.2]; simp
  | cons q l => rfl
theorem dcT_app {M : List Tk} (hM : HdS M) (p : Tk) (l : List Tk) : dcT p (l ++ M) = dcT p l := by
  match l with
  | [] =>
    match M, hM with
    | [], _ => rfl
    | [q], _ => rfl
    | q :: r :: M, hM =>
      rw [List.nil_append, dcT]
      have : decide (q.2.1 = ⟨#[46]⟩) = false := by
        rw [decide_eq_false_iff_not]; intro e
        rcases hM.2 with f | f <;> (rw [f] at e; exact absurd e (by decide))
      rw [this]; simp [dcT]
  | [q] =>
    match M, hM with
    | [], _ => rfl
    | r :: M, hM =>
      rw [List.cons_append, List.nil_append, dcT, hM.1]; simp [dcT]
  | q :: r :: l => rfl
theorem fst_app {M : List Tk} (hM : HdS M) (p : Tk) (l : List Tk) (h : (fstT p l).2 ≠ 0) : fstT p (l ++ M) = fstT p l := by
  unfold fstT at h ⊢
  by_cases hq : qt p = true
  · rw [if_pos hq] at h ⊢
    rw [if_pos hq, toQ_app hM _ l 1 (Nat.le_refl _) h]
  · rw [if_neg hq] at h ⊢
    rw [if_neg hq, toS_app hM, prT_app hM, dcT_app hM]
theorem toks_left (a c : ByteArray) {M : List Tk} (hM : HdS M) : ∀ (n N : Nat) (L A T : List Tk) (b : Nat), Od a b L → L.length ≤ n → (L ++ M).length ≤ N → toksF a n L A = .inr T →
    ∃ T0 N', T = T0 ++ [(0, ⟨#[]⟩, (a.size : Int))] ∧ M.length ≤ N' ∧ toksF (a ++ c) N (L ++ M) A = toksF (a ++ c) N' M T0
  | n, N, [], A, T, b, ho, h1, h2, h => by
    have e : T = A ++ [(0, ⟨#[]⟩, (a.size : Int))] := by
      cases n <;> (simp only [toksF, Sum.inr.injEq] at h; exact h.symm)
    exact ⟨A, N, e, by simpa using h2, rfl⟩
  | 0, N, p :: l, A, T, b, ho, h1, h2, h => by simp at h1
  | n + 1, 0, p :: l, A, T, b, ho, h1, h2, h => by simp at h2
  | n + 1, N + 1, p :: l, A, T, b, ho, h1, h2, h => by
    rw [toksF] at h
    by_cases hm : (fstT p l).2 = 0
    · rw [if_pos hm] at h; exact absurd h (by simp)
    · rw [if_neg hm] at h
      have hle := fst_le p l
      rw [List.cons_append, toksF, fst_app hM p l hm, if_neg hm]
      have e1 : (p :: (l ++ M)).drop (fstT p l).2 = (p :: l).drop (fstT p l).2 ++ M := by
        rw [← List.cons_append, List.drop_append_of_le_length (by simpa using hle)]
      have e2 : tokT (a ++ c) p (l ++ M) = tokT a p l := by
        unfold tokT
        rw [fst_app hM p l hm]
        obtain ⟨q, hq, h3, h4, h5, h6, h7⟩ := end_at ho (m := (fstT p l).2) (by omega) hle
        have e3 : endN (p :: (l ++ M)) ((fstT p l).2 - 1) = endN (p :: l) ((fstT p l).2 - 1) := by
          unfold endN
          rw [← List.cons_append, List.getElem?_append_left (by simp only [List.length_cons]; omega)]
        rw [e3, ext_left _ _ _ _ (by omega)]
      rw [e1, e2]
      simp only [List.length_cons, List.length_append] at h1 h2
      exact toks_left a c hM n N _ _ T b (Od_drop _ _ _ ho) (by simp only [List.length_drop, List.length_cons]; omega) (by simp only [List.length_append, List.length_drop, List.length_cons]; omega) h

/-! ### tokens -/
theorem toksB_get {s : ByteArray} {T : List Tk} (h : toksB s = .inr T) : ∃ P, splitB s = .inr P ∧ toksF s P.length (texts s P) [] = .inr T := by
  unfold toksB at h
  cases hp : splitB s with
  | inl i => rw [hp] at h; exact absurd h (by simp)
  | inr P =>
    rw [hp] at h
    dsimp only at h
    cases hf : toksF s P.length (texts s P) [] with
    | inl i => rw [hf] at h; exact absurd h (by simp)
    | inr T' => rw [hf] at h; simp only [Sum.inr.injEq] at h; subst h; exact ⟨P, rfl, hf⟩
end Go.Proofs.YtaoocecipacnhaaDoor
