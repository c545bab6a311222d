import Derived.Test.YtcmefhnfdcngfaaDoorP34
import Derived.Test.YtcmefhnfdcngfaaDoorP17
/- expr.Parse of any text. -/
namespace Go.Proofs.YtcmefhnfdcngfaaDoor
open Go.RowKit
set_option linter.unusedVariables false

theorem fst_kind (p : Tk) (l : List Tk) : (fstT p l).1 ≠ 0 := by
  unfold fstT
  split
  · simp
  · split
    · simp
    · split
      · simp
      · split <;> simp
theorem endL_snoc : ∀ (A : List Tk) (p : Tk), p.1 = 0 → (∀ a ∈ A, a.1 ≠ 0) → EndL (A ++ [p])
  | [], p, h0, h => by simpa [EndL] using h0
  | [a], p, h0, h => by
    refine ⟨h a (by simp), ?_⟩
    simpa [EndL] using h0
  | a :: b :: A, p, h0, h => ⟨h a (by simp), endL_snoc (b :: A) p h0 (fun x hx => h x (by simp at hx ⊢; exact .inr hx))⟩
theorem toks_end (s : ByteArray) : ∀ (n : Nat) (L A T : List Tk), (∀ a ∈ A, a.1 ≠ 0) → toksF s n L A = .inr T → EndL T ∧ T.length ≤ A.length + n + 1
  | 0, L, A, T, h, e => by
    simp only [toksF, Sum.inr.injEq] at e; subst e
    exact ⟨endL_snoc A _ rfl h, by simp⟩
  | n + 1, [], A, T, h, e => by
    simp only [toksF, Sum.inr.injEq] at e; subst e
    exact ⟨endL_snoc A _ rfl h, by simp⟩
  | n + 1, p :: l, A, T, h, e => by
    rw [toksF] at e
    split at e
    · exact absurd e (by simp)
    · have q := toks_end s n _ _ T (fun a ha => by
        simp only [List.mem_append, List.mem_singleton] at ha
        rcases ha with ha | rfl
        · exact h a ha
        · exact fst_kind p l) e
      simp only [List.length_append, List.length_cons, List.length_nil] at q
      exact ⟨q.1, by omega⟩
theorem toksB_end {s : ByteArray} {T : List Tk} (h : toksB s = .inr T) (hs : s.size ≤ 2048) : EndL T ∧ T.length ≤ 2049 := by
  unfold toksB at h
  cases hp : splitB s with
  | inl i => rw [hp] at h; exact absurd h (by simp)
  | inr P =>
    rw [hp] at h
    dsimp only at h
    cases ht : toksF s P.length (texts s P) [] with
    | inl i => rw [ht] at h; exact absurd h (by simp)
    | inr T' =>
      rw [ht] at h
      simp only [Sum.inr.injEq] at h; subst h
      have q := toks_end s _ _ [] T' (by simp) ht
      have := Cov_length s P 0 _ (splitB_cov hp)
      simp only [List.length_nil] at q
      exact ⟨q.1, by omega⟩
theorem toksB_err {s : ByteArray} {x : Int × Int} (h : toksB s = .inl x) : x.2 = 21 ∨ x.2 = 30 := by
  unfold toksB at h
  cases hp : splitB s with
  | inl i => rw [hp] at h; simp only [Sum.inl.injEq] at h; subst h; exact .inl rfl
  | inr P =>
    rw [hp] at h
    dsimp only at h
    cases ht : toksF s P.length (texts s P) [] with
    | inl i => rw [ht] at h; simp only [Sum.inl.injEq] at h; subst h; exact .inr rfl
    | inr T' => rw [ht] at h; exact absurd h (by simp)

/-- a line and the end behind it. -/
def endT : PR → Sum (Int × Int) Nd
  | .no a e => .inl (a, e)
  | .ok n (q :: _) => if isT q [(0, ⟨#[]⟩)] then .inr n else .inl (q.2.2, 30)
  | .ok n [] => .inl (0, 30)
/-- the node of a text; or a place and an error. -/
def parseB (s : ByteArray) : Sum (Int × Int) Nd :=
  match toksB s with
  | .inl x => .inl x
  | .inr T => endT (par (10 * T.length + 10) (.lv 0) 0 T)
/-- what whole hands back. -/
def WhOf (g : Nat) (X : Nat → Prop) (e : Ending) (w' : World) : Sum (Int × Int) Nd → Prop
  | .inl x => PF g w' 0 x.1 x.2 ∧ e = .returned (.tuple #[.agg #[.int .i64 0, .string ⟨#[]⟩, .slice none 0 0, .int .i64 0], .bool false])
  | .inr n => ∃ k t sq sn sc a, e = .returned (.tuple #[.agg #[.int .i64 k, .string t, .slice sq sn sc, .int .i64 a], .bool true]) ∧ NdAt X w' n [.int .i64 k, .string t, .slice sq sn sc, .int .i64 a]
theorem whole_any (g b cap : Nat) (T : List Tk) (hE : EndL T) (hN : T.length ≤ 100000) (w : World) (h : PS g b cap T w T 0) :
    Calls Tryd.prog 27 #[.pointer (some ⟨g, 0, none⟩)] w fun e w' => Kp g w w' ∧ WhOf g (fun c => w.heap.size ≤ c) e w' (endT (par (10 * T.length + 10) (.lv 0) 0 T)) := by
  have HC : ∀ V : World, PS g b cap T V T 0 → Calls Tryd.prog 33 #[.pointer (some ⟨g, 0, none⟩)] V fun e w' => Kp g V w' ∧ Out g b cap T (fun c => V.heap.size ≤ c) w' 0 e (par (10 * T.length + 10) (.lv 0) 0 T) :=
    fun V hV => (expr_all g b cap T T.length hN).1 V T 0 _ hV hE (by omega) (Nat.le_refl _) (by simp [need])
  have hG := par_good (fun _ => True) (fun _ => True) (10 * T.length + 10) (.lv 0) 0 T (by simp [okTg]) ⟨hE, fun _ _ _ => trivial, fun _ _ => trivial⟩ (by simp [PlT]) (by simp [need])
  cases hp : par (10 * T.length + 10) (.lv 0) 0 T with
  | no ea er =>
    rw [hp] at HC
    exact whole_no g b cap T T 0 ea er HC w h
  | ok n l1 =>
    rw [hp] at HC hG
    obtain ⟨q, l1, rfl⟩ := hG.1.cons
    have hE1 : EndL (q :: l1) := hG.1
    cases hi : isT q [(0, ⟨#[]⟩)] with
    | false =>
      have e1 : endT (.ok n (q :: l1)) = .inl (q.2.2, 30) := by simp [endT, hi]
      rw [e1]
      exact whole_bad g b cap T T 0 n q l1 hi HC w h
    | true =>
      have e1 : endT (.ok n (q :: l1)) = .inr n := by simp [endT, hi]
      rw [e1]
      have hq0 : q.1 = 0 := by simp [isT] at hi; exact hi.1
      have hl : l1 = [] := by
        cases l1 with
        | nil => rfl
        | cons r l1 => exact absurd hq0 hE1.1
      subst hl
      exact whole_good g b cap T T 0 n q hi HC w h

end Go.Proofs.YtcmefhnfdcngfaaDoor
/- Tokens of texts that are put together, with a bracket between: mathematics. -/
namespace Go.Proofs.YtcmefhnfdcngfaaDoor
open Go.RowKit
set_option linter.unusedVariables false

/-! ### parts -/
/-! ### their texts -/
theorem ext_left (a c : ByteArray) (i j : Nat) (h : j ≤ a.size) : (a ++ c).extract i j = a.extract i j := by
  rw [ByteArray.extract_append, show j - a.size = 0 by omega]
  have : c.extract (i - a.size) 0 = ByteArray.empty := by
    apply ByteArray.ext; simp
  rw [this]; simp
/-! ### the same parts further on -/
/-! ### the same parts with a bracket behind them -/
def HdS : List Tk → Prop
  | [] => True
  | q :: _ => q.1 = 3 ∧ (q.2.1 = ⟨#[40]⟩ ∨ q.2.1 = ⟨#[41]⟩)
theorem HdS.qt {q : Tk} {M : List Tk} (h : HdS (q :: M)) : qt q = false := by
  unfold Go.Proofs.YtcmefhnfdcngfaaDoor.qt
  rw [decide_eq_false_iff_not]
  intro e
  rcases h.2 with f | f <;> (rw [f] at e; exact absurd e (by decide))
theorem isPr_br (t : ByteArray) {u : ByteArray} (h : u = ⟨#[40]⟩ ∨ u = ⟨#[41]⟩) : isPr (t ++ u) = false := by
  have k : ∀ (x y : UInt8), y ≠ 40 → y ≠ 41 → t ++ u ≠ ⟨#[x, y]⟩ := by
    intro x y h0 h1 e
    have q := congrArg (fun b : ByteArray => b.data.toList.getLast?) e
    rcases h with rfl | rfl
    · simp at q; exact h0 q.symm
    · simp at q; exact h1 q.symm
  unfold isPr
  simp only [Bool.or_eq_false_iff, decide_eq_false_iff_not]
  exact ⟨⟨⟨k _ _ (by decide) (by decide), k _ _ (by decide) (by decide)⟩, k _ _ (by decide) (by decide)⟩, k _ _ (by decide) (by decide)⟩
theorem toQ_app {M : List Tk} (hM : HdS M) : ∀ (k : Nat) (l : List Tk) (i : Nat), l.length ≤ k → toQ i l ≠ 0 → toQ i (l ++ M) = toQ i l
  | _, [], i, _, h => by simp [toQ] at h
  | _, [p], i, _, h => by
    cases M with
    | nil => rfl
    | cons q M =>
      rw [toQ] at h ⊢
      by_cases hp : qt p = true
      · rw [if_pos hp, List.cons_append, List.nil_append, toQ, if_pos hp, hM.qt]; simp
      · rw [if_neg hp] at h; exact absurd rfl h
  | 0, p :: q :: l, i, h, _ => by simp at h
  | k + 1, p :: q :: l, i, h, hz => by
    simp only [List.length_cons] at h
    rw [toQ] at hz
    rw [List.cons_append, List.cons_append, toQ, toQ]
    by_cases hp : qt p = true
    · rw [if_pos hp] at hz ⊢
      rw [if_pos hp]
      by_cases hq : (besT p q && qt q) = true
      · rw [if_pos hq] at hz ⊢
        rw [if_pos hq]
        exact toQ_app hM k l _ (by omega) hz
      · rw [if_neg hq, if_neg hq]
    · rw [if_neg hp] at hz ⊢
      rw [if_neg hp]
      exact toQ_app hM k (q :: l) _ (by simp only [List.length_cons]; omega) hz
theorem toS_app {M : List Tk} (hM : HdS M) : ∀ (l : List Tk) (m : Nat) (p : Tk), toS m p (l ++ M) = toS m p l
  | [], m, p => by
    cases M with
    | nil => rfl
    | cons q M => rw [List.nil_append]; simp [toS, hM.1]
  | q :: l, m, p => by rw [List.cons_append, toS, toS, toS_app hM l]
theorem prT_app {M : List Tk} (hM : HdS M) (p : Tk) (l : List Tk) : prT p (l ++ M) = prT p l := by
  cases l with
  | nil =>
    cases M with
    | nil => rfl
    | cons q M => rw [List.nil_append, prT, prT, isPr_br _ hM.2]; simp
  | cons q l => rfl
theorem dcT_app {M : List Tk} (hM : HdS M) (p : Tk) (l : List Tk) : dcT p (l ++ M) = dcT p l := by
  match l with
  | [] =>
    match M, hM with
    | [], _ => rfl
    | [q], _ => rfl
    | q :: r :: M, hM =>
      rw [List.nil_append, dcT]
      have : decide (q.2.1 = ⟨#[46]⟩) = false := by
        rw [decide_eq_false_iff_not]; intro e
        rcases hM.2 with f | f <;> (rw [f] at e; exact absurd e (by decide))
      rw [this]; simp [dcT]
  | [q] =>
    match M, hM with
    | [], _ => rfl
    | r :: M, hM =>
      rw [List.cons_append, List.nil_append, dcT, hM.1]; simp [dcT]
  | q :: r :: l => rfl
theorem fst_app {M : List Tk} (hM : HdS M) (p : Tk) (l : List Tk) (h : (fstT p l).2 ≠ 0) : fstT p (l ++ M) = fstT p l := by
  unfold fstT at h ⊢
  by_cases hq : qt p = true
  · rw [if_pos hq] at h ⊢
    rw [if_pos hq, toQ_app hM _ l 1 (Nat.le_refl _) h]
  · rw [if_neg hq] at h ⊢
    rw [if_neg hq, toS_app hM, prT_app hM, dcT_app hM]
theorem toks_left (a c : ByteArray) {M : List Tk} (hM : HdS M) : ∀ (n N : Nat) (L A T : List Tk) (b : Nat), Od a b L → L.length ≤ n → (L ++ M).length ≤ N → toksF a n L A = .inr T →
    ∃ T0 N', T = T0 ++ [(0, ⟨#[]⟩, (a.size : Int))] ∧ M.length ≤ N' ∧ toksF (a ++ c) N (L ++ M) A = toksF (a ++ c) N' M T0
  | n, N, [], A, T, b, ho, h1, h2, h => by
    have e : T = A ++ [(0, ⟨#[]⟩, (a.size : Int))] := by
      cases n <;> (simp only [toksF, Sum.inr.injEq] at h; exact h.symm)
    exact ⟨A, N, e, by simpa using h2, rfl⟩
  | 0, N, p :: l, A, T, b, ho, h1, h2, h => by simp at h1
  | n + 1, 0, p :: l, A, T, b, ho, h1, h2, h => by simp at h2
  | n + 1, N + 1, p :: l, A, T, b, ho, h1, h2, h => by
    rw [toksF] at h
    by_cases hm : (fstT p l).2 = 0
    · rw [if_pos hm] at h; exact absurd h (by simp)
    · rw [if_neg hm] at h
      have hle := fst_le p l
      rw [List.cons_append, toksF, fst_app hM p l hm, if_neg hm]
      have e1 : (p :: (l ++ M)).drop (fstT p l).2 = (p :: l).drop (fstT p l).2 ++ M := by
        rw [← List.cons_append, List.drop_append_of_le_length (by simpa using hle)]
      have e2 : tokT (a ++ c) p (l ++ M) = tokT a p l := by
        unfold tokT
        rw [fst_app hM p l hm]
        obtain ⟨q, hq, h3, h4, h5, h6, h7⟩ := end_at ho (m := (fstT p l).2) (by omega) hle
        have e3 : endN (p :: (l ++ M)) ((fstT p l).2 - 1) = endN (p :: l) ((fstT p l).2 - 1) := by
          unfold endN
          rw [← List.cons_append, List.getElem?_append_left (by simp only [List.length_cons]; omega)]
        rw [e3, ext_left _ _ _ _ (by omega)]
      rw [e1, e2]
      simp only [List.length_cons, List.length_append] at h1 h2
      exact toks_left a c hM n N _ _ T b (Od_drop _ _ _ ho) (by simp only [List.length_drop, List.length_cons]; omega) (by simp only [List.length_append, List.length_drop, List.length_cons]; omega) h

/-! ### tokens -/
theorem toksB_get {s : ByteArray} {T : List Tk} (h : toksB s = .inr T) : ∃ P, splitB s = .inr P ∧ toksF s P.length (texts s P) [] = .inr T := by
  unfold toksB at h
  cases hp : splitB s with
  | inl i => rw [hp] at h; exact absurd h (by simp)
  | inr P =>
    rw [hp] at h
    dsimp only at h
    cases hf : toksF s P.length (texts s P) [] with
    | inl i => rw [hf] at h; exact absurd h (by simp)
    | inr T' => rw [hf] at h; simp only [Sum.inr.injEq] at h; subst h; exact ⟨P, rfl, hf⟩
end Go.Proofs.YtcmefhnfdcngfaaDoor
/- The grammar of expressions in brackets: mathematics. -/
namespace Go.Proofs.YtcmefhnfdcngfaaDoor
open Go.RowKit
set_option linter.unusedVariables false

/-! ### more fuel -/
/-! ### up from a line of the grammar to the one above -/
/-! ### brackets -/
theorem EndL.init : ∀ {A : List Tk} {e : Tk}, EndL (A ++ [e]) → ∀ t ∈ A, t.1 ≠ 0
  | [], e, h, t, ht => by simp at ht
  | [p], e, h, t, ht => by simp at ht; subst ht; exact h.1
  | p :: q :: A, e, h, t, ht => by
    rcases List.mem_cons.1 ht with rfl | ht
    · exact h.1
    · exact EndL.init (A := q :: A) (e := e) h.2 t ht
/-- a text's tokens, where it is an expression. -/
theorem parse_toks {s : ByteArray} {n : Nd} (hs : s.size ≤ 2048) (h : parseB s = .inr n) : ∃ A e, toksB s = .inr (A ++ [(0, ⟨#[]⟩, (s.size : Int))]) ∧ (∀ t ∈ A, t.1 ≠ 0) ∧ e.1 = 0 ∧ par (10 * (A.length + 1) + 10) (.lv 0) 0 (A ++ [(0, ⟨#[]⟩, (s.size : Int))]) = .ok n [e] := by
  unfold parseB at h
  cases ht : toksB s with
  | inl x => rw [ht] at h; exact absurd h (by simp)
  | inr T =>
    rw [ht] at h
    dsimp only at h
    obtain ⟨P, hp, hf⟩ := toksB_get ht
    obtain ⟨A, _, e0, _⟩ := toks_left s (⟨#[]⟩ : ByteArray) (M := []) trivial P.length (texts s P).length (texts s P) [] T 0 (Od_cov s P 0 _ (splitB_cov hp)) (by rw [texts_length]; omega) (by simp) hf
    subst e0
    have hE := (toksB_end ht hs).1
    cases hr : par (10 * (A ++ [((0, ⟨#[]⟩, (s.size : Int)) : Tk)]).length + 10) (.lv 0) 0 (A ++ [((0, ⟨#[]⟩, (s.size : Int)) : Tk)]) with
    | no a e => rw [hr] at h; simp [endT] at h
    | ok m l1 =>
      rw [hr] at h
      have hl := par_less (by simp [okTg]) hE (by simp [need]) hr
      cases l1 with
      | nil => exact hl.1.elim
      | cons q l1 =>
        rw [endT] at h
        by_cases hq : isT q [(0, ⟨#[]⟩)] = true
        · rw [if_pos hq] at h
          simp only [Sum.inr.injEq] at h; subst h
          have hq0 : q.1 = 0 := by
            obtain ⟨x, hx, hd⟩ := List.any_eq_true.1 hq
            simp at hx; subst hx
            exact (of_decide_eq_true hd).1
          cases l1 with
          | nil => exact ⟨A, q, rfl, EndL.init hE, hq0, by simpa using hr⟩
          | cons u l2 => exact absurd hq0 hl.1.1
        · rw [if_neg hq] at h; exact absurd h (by simp)
end Go.Proofs.YtcmefhnfdcngfaaDoor
