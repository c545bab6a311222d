import Derived.Test.YtcmefhnfdcngfaaDoorK26
/- Tokens of texts that are put together, with a bracket between: mathematics. -/
namespace Go.Proofs.YtcmefhnfdcngfaaDoor
open Go.RowKit
set_option linter.unusedVariables false

/-! ### parts -/
theorem split_three (s : ByteArray) (f pos : Nat) (l : List Prt) : splitF s f pos l 3 = splitF s f pos l 0 := by
  cases f with
  | zero => rfl
  | succ f =>
    rw [splitF, splitF]
    by_cases hp : pos < s.size
    · rw [if_pos hp, if_pos hp]
      by_cases c1 : kindP s pos = -1
      · rw [if_pos c1, if_pos c1]
      · rw [if_neg c1, if_neg c1]
        by_cases c0 : kindP s pos = 0
        · rw [if_pos c0, if_pos c0]
        · rw [if_neg c0, if_neg c0, if_pos (Classical.em (kindP s pos = 3)), if_pos (Or.inr c0)]
    · rw [if_neg hp, if_neg hp]
theorem split_k {s : ByteArray} {pos : Nat} (hk : kindP s pos = 3) (f : Nat) (l : List Prt) (k k2 : Int) : splitF s f pos l k = splitF s f pos l k2 := by
  cases f with
  | zero => rfl
  | succ f =>
    by_cases hp : pos < s.size
    · rw [splitF_new hp (by omega) (by omega) (.inl hk), splitF_new hp (by omega) (by omega) (.inl hk)]
    · rw [splitF_end _ _ _ _ _ hp, splitF_end _ _ _ _ _ hp]
/-- a bracket. -/
def Br (x : UInt8) : Prop := x = 40 ∨ x = 41
theorem one_size (x : UInt8) : (⟨#[x]⟩ : ByteArray).size = 1 := rfl
theorem dec_sign {x : UInt8} (hx : Br x) (c : ByteArray) : Utf8.decode ((⟨#[x]⟩ : ByteArray) ++ c) 0 = (x.toNat, 1) := by
  have hz : 0 < ((⟨#[x]⟩ : ByteArray) ++ c).size := by rw [ByteArray.size_append, one_size]; omega
  have hb0 : bt ((⟨#[x]⟩ : ByteArray) ++ c) 0 = x.toNat := by
    rw [bt_left _ _ _ (by rw [one_size]; omega)]; rfl
  have h128 : x.toNat < 128 := by rcases hx with rfl | rfl <;> decide
  rcases dec_shape ((⟨#[x]⟩ : ByteArray) ++ c) 0 hz with ⟨q, e⟩ | ⟨q, _⟩ | ⟨q, _⟩
  · rw [e, hb0]
  · omega
  · omega
theorem kind_sign {x : UInt8} (hx : Br x) (c : ByteArray) : kindP ((⟨#[x]⟩ : ByteArray) ++ c) 0 = 3 := by
  unfold kindP; rw [dec_sign hx]
  rcases hx with rfl | rfl <;> decide
theorem splitB_sign {x : UInt8} (hx : Br x) {c : ByteArray} {m : List Prt} (h : splitB c = .inr m) : splitB ((⟨#[x]⟩ : ByteArray) ++ c) = .inr ((3, 0, 1) :: m.map (sh 1)) := by
  unfold splitB at h ⊢
  have hk := kind_sign hx c
  have hz : ((⟨#[x]⟩ : ByteArray) ++ c).size = c.size + 1 := by rw [ByteArray.size_append, one_size]; omega
  rw [hz, splitF_new (by omega) (by omega) (by omega) (.inl hk), dec_sign hx, hk, split_three]
  have := split_right (⟨#[x]⟩ : ByteArray) c [(3, 0, 1)] c.size c.size 0 [] 0 m (by omega) (by omega) (.inl rfl) h
  simpa [one_size] using this
theorem splitB_cat {x : UInt8} (hx : Br x) {a c : ByteArray} {l m : List Prt} (ha : splitB a = .inr l) (hc : splitB ((⟨#[x]⟩ : ByteArray) ++ c) = .inr m) : splitB (a ++ ((⟨#[x]⟩ : ByteArray) ++ c)) = .inr (l ++ m.map (sh a.size)) := by
  have hk : kindP (a ++ ((⟨#[x]⟩ : ByteArray) ++ c)) a.size = 3 := by
    have := kind_right a ((⟨#[x]⟩ : ByteArray) ++ c) 0
    rw [Nat.add_zero] at this
    rw [this, kind_sign hx]
  generalize (⟨#[x]⟩ : ByteArray) ++ c = C at *
  unfold splitB at ha hc ⊢
  obtain ⟨F', k', g1, g2⟩ := split_left a C a.size (a ++ C).size 0 [] 0 l (by omega) (by omega) (by omega) ha
  rw [ByteArray.size_append] at g1
  rw [g2, split_k hk F' l k' 0]
  have := split_right a C l C.size F' 0 [] 0 m (by omega) (by omega) (.inl rfl) hc
  simpa using this

/-! ### their texts -/
/-- so much further on. -/
def shK (n : Nat) (p : Tk) : Tk := (p.1, p.2.1, p.2.2 + (n : Int))
theorem ext_left (a c : ByteArray) (i j : Nat) (h : j ≤ a.size) : (a ++ c).extract i j = a.extract i j := by
  rw [ByteArray.extract_append, show j - a.size = 0 by omega]
  have : c.extract (i - a.size) 0 = ByteArray.empty := by
    apply ByteArray.ext; simp
  rw [this]; simp
theorem ext_right (a c : ByteArray) (i j : Nat) : (a ++ c).extract (a.size + i) (a.size + j) = c.extract i j := by
  rw [ByteArray.extract_append, show a.size + i - a.size = i by omega, show a.size + j - a.size = j by omega]
  have : a.extract (a.size + i) (a.size + j) = ByteArray.empty := by
    apply ByteArray.ext; simp
  rw [this]; simp
theorem texts_left (a c : ByteArray) : ∀ (l : List Prt) (x z : Nat), Cov a x l z → texts (a ++ c) l = texts a l
  | [], x, z, h => rfl
  | p :: l, x, z, h => by
    obtain ⟨h1, h2, h3, h4, h5⟩ := h
    have q := texts_left a c l _ _ h5
    unfold texts at q ⊢
    rw [List.map_cons, List.map_cons, q, ext_left _ _ _ _ (by omega)]
theorem texts_right (a c : ByteArray) : ∀ (m : List Prt), texts (a ++ c) (m.map (sh a.size)) = (texts c m).map (shK a.size)
  | [] => rfl
  | p :: m => by
    have q := texts_right a c m
    unfold texts at q ⊢
    rw [List.map_cons, List.map_cons, List.map_cons, List.map_cons, q]
    congr 1
    unfold sh shK
    simp only
    rw [ext_right]
    simp [Int.add_comm]
theorem texts_append (s : ByteArray) (l m : List Prt) : texts s (l ++ m) = texts s l ++ texts s m := by simp [texts]

/-! ### the same parts further on -/
theorem besT_sh (n : Nat) (p q : Tk) : besT (shK n p) (shK n q) = besT p q := by
  unfold besT shK
  simp only
  congr 1
  apply propext; omega
theorem qt_sh (n : Nat) (p : Tk) : qt (shK n p) = qt p := rfl
theorem toQ_sh (n : Nat) : ∀ (k : Nat) (l : List Tk) (i : Nat), l.length ≤ k → toQ i (l.map (shK n)) = toQ i l
  | _, [], i, _ => rfl
  | _, [p], i, _ => rfl
  | 0, p :: q :: l, i, h => by simp at h
  | k + 1, p :: q :: l, i, h => by
    simp only [List.length_cons] at h
    have h1 := toQ_sh n k l (i + 2) (by omega)
    have h2 := toQ_sh n k (q :: l) (i + 1) (by simp only [List.length_cons]; omega)
    rw [List.map_cons] at h2
    rw [List.map_cons, List.map_cons, toQ, toQ, qt_sh, qt_sh, besT_sh, h1, h2]
theorem toS_sh (n : Nat) : ∀ (l : List Tk) (m : Nat) (p : Tk), toS m (shK n p) (l.map (shK n)) = toS m p l
  | [], m, p => rfl
  | q :: l, m, p => by
    rw [List.map_cons, toS, toS, besT_sh, toS_sh n l (m + 1) q]
    rfl
theorem prT_sh (n : Nat) (p : Tk) (l : List Tk) : prT (shK n p) (l.map (shK n)) = prT p l := by
  cases l with
  | nil => rfl
  | cons q l => rw [List.map_cons, prT, prT, besT_sh]; rfl
theorem dcT_sh (n : Nat) (p : Tk) (l : List Tk) : dcT (shK n p) (l.map (shK n)) = dcT p l := by
  match l with
  | [] => rfl
  | [q] => rfl
  | q :: r :: l => rw [List.map_cons, List.map_cons, dcT, dcT, besT_sh, besT_sh]; rfl
theorem fst_sh (n : Nat) (p : Tk) (l : List Tk) : fstT (shK n p) (l.map (shK n)) = fstT p l := by
  unfold fstT
  rw [qt_sh, toQ_sh n _ l 1 (Nat.le_refl _), toS_sh, prT_sh, dcT_sh]
  rfl
theorem endN_sh (n : Nat) (l : List Tk) (i : Nat) {q : Tk} (h : l[i]? = some q) (h0 : 0 ≤ q.2.2) : endN (l.map (shK n)) i = n + endN l i := by
  unfold endN
  rw [List.getElem?_map, h]
  simp only [Option.map_some, shK]
  omega
theorem tok_sh (a c : ByteArray) (b : Nat) (p : Tk) (l : List Tk) (ho : Od c b (p :: l)) (hm : (fstT p l).2 ≠ 0) : tokT (a ++ c) (shK a.size p) (l.map (shK a.size)) = shK a.size (tokT c p l) := by
  unfold tokT
  rw [fst_sh]
  obtain ⟨q, hq, _, h0, h1, h2, h3⟩ := end_at ho (m := (fstT p l).2) (by omega) (fst_le p l)
  have := endN_sh a.size (p :: l) _ hq h1
  rw [List.map_cons] at this
  rw [this]
  have e : (shK a.size p).2.2.toNat = a.size + p.2.2.toNat := by unfold shK; simp only; omega
  rw [e, ext_right]
  rfl
theorem toks_right (a c : ByteArray) (B : List Tk) : ∀ (n N : Nat) (L A T : List Tk) (b : Nat), Od c b L → L.length ≤ n → L.length ≤ N → toksF c n L A = .inr T → toksF (a ++ c) N (L.map (shK a.size)) (B ++ A.map (shK a.size)) = .inr (B ++ T.map (shK a.size))
  | n, N, [], A, T, b, ho, h1, h2, h => by
    have e : T = A ++ [(0, ⟨#[]⟩, (c.size : Int))] := by
      cases n <;> (simp only [toksF, Sum.inr.injEq] at h; exact h.symm)
    subst e
    have e2 : toksF (a ++ c) N ([].map (shK a.size)) (B ++ A.map (shK a.size)) = .inr ((B ++ A.map (shK a.size)) ++ [(0, ⟨#[]⟩, ((a ++ c).size : Int))]) := by
      cases N <;> simp [toksF]
    rw [e2, ByteArray.size_append]
    simp [shK, Int.add_comm]
  | 0, N, p :: l, A, T, b, ho, h1, h2, h => by simp at h1
  | n + 1, 0, p :: l, A, T, b, ho, h1, h2, h => by simp at h2
  | n + 1, N + 1, p :: l, A, T, b, ho, h1, h2, h => by
    rw [toksF] at h
    rw [List.map_cons, toksF, fst_sh]
    by_cases hm : (fstT p l).2 = 0
    · rw [if_pos hm] at h; exact absurd h (by simp)
    · rw [if_neg hm] at h ⊢
      have hd : ((p :: l).drop (fstT p l).2).length ≤ l.length := by simp only [List.length_drop, List.length_cons]; omega
      simp only [List.length_cons] at h1 h2
      have ih := toks_right a c B n N ((p :: l).drop (fstT p l).2) (A ++ [tokT c p l]) T b (Od_drop _ _ _ ho) (by omega) (by omega) h
      rw [tok_sh a c b p l ho hm, ← List.map_cons, ← List.map_drop]
      rw [List.map_append, ← List.append_assoc] at ih
      exact ih

/-! ### the same parts with a bracket behind them -/
def HdS : List Tk → Prop
  | [] => True
  | q :: _ => q.1 = 3 ∧ (q.2.1 = ⟨#[40]⟩ ∨ q.2.1 = ⟨#[41]⟩)
theorem HdS.qt {q : Tk} {M : List Tk} (h : HdS (q :: M)) : qt q = false := by
  unfold Go.Proofs.YtcmefhnfdcngfaaDoor.qt
  rw [decide_eq_false_iff_not]
  intro e
  rcases h.2 with f | f <;> (rw [f] at e; exact absurd e (by decide))
theorem isPr_br (t : ByteArray) {u : ByteArray} (h : u = ⟨#[40]⟩ ∨ u = ⟨#[41]⟩) : isPr (t ++ u) = false := by
  have k : ∀ (x y : UInt8), y ≠ 40 → y ≠ 41 → t ++ u ≠ ⟨#[x, y]⟩ := by
    intro x y h0 h1 e
    have q := congrArg (fun b : ByteArray => b.data.toList.getLast?) e
    rcases h with rfl | rfl
    · simp at q; exact h0 q.symm
    · simp at q; exact h1 q.symm
  unfold isPr
  simp only [Bool.or_eq_false_iff, decide_eq_false_iff_not]
  exact ⟨⟨⟨k _ _ (by decide) (by decide), k _ _ (by decide) (by decide)⟩, k _ _ (by decide) (by decide)⟩, k _ _ (by decide) (by decide)⟩
theorem toQ_app {M : List Tk} (hM : HdS M) : ∀ (k : Nat) (l : List Tk) (i : Nat), l.length ≤ k → toQ i l ≠ 0 → toQ i (l ++ M) = toQ i l
  | _, [], i, _, h => by simp [toQ] at h
  | _, [p], i, _, h => by
    cases M with
    | nil => rfl
    | cons q M =>
      rw [toQ] at h ⊢
      by_cases hp : qt p = true
      · rw [if_pos hp, List.cons_append, List.nil_append, toQ, if_pos hp, hM.qt]; simp
      · rw [if_neg hp] at h; exact absurd rfl h
  | 0, p :: q :: l, i, h, _ => by simp at h
  | k + 1, p :: q :: l, i, h, hz => by
    simp only [List.length_cons] at h
    rw [toQ] at hz
    rw [List.cons_append, List.cons_append, toQ, toQ]
    by_cases hp : qt p = true
    · rw [if_pos hp] at hz ⊢
      rw [if_pos hp]
      by_cases hq : (besT p q && qt q) = true
      · rw [if_pos hq] at hz ⊢
        rw [if_pos hq]
        exact toQ_app hM k l _ (by omega) hz
      · rw [if_neg hq, if_neg hq]
    · rw [if_neg hp] at hz ⊢
      rw [if_neg hp]
      exact toQ_app hM k (q :: l) _ (by simp only [List.length_cons]; omega) hz
theorem toS_app {M : List Tk} (hM : HdS M) : ∀ (l : List Tk) (m : Nat) (p : Tk), toS m p (l ++ M) = toS m p l
  | [], m, p => by
    cases M with
    | nil => rfl
    | cons q M => rw [List.nil_append]; simp [toS, hM.1]
  | q :: l, m, p => by rw [List.cons_append, toS, toS, toS_app hM l]
theorem prT_app {M : List Tk} (hM : HdS M) (p : Tk) (l : List Tk) : prT p (l ++ M) = prT p l := by
  cases l with
  | nil =>
    cases M with
    | nil => rfl
    | cons q M => rw [List.nil_append, prT, prT, isPr_br _ hM.2]; simp
  | cons q l => rfl
theorem dcT_app {M : List Tk} (hM : HdS M) (p : Tk) (l : List Tk) : dcT p (l ++ M) = dcT p l := by
  match l with
  | [] =>
    match M, hM with
    | [], _ => rfl
    | [q], _ => rfl
    | q :: r :: M, hM =>
      rw [List.nil_append, dcT]
      have : decide (q.2.1 = ⟨#[46]⟩) = false := by
        rw [decide_eq_false_iff_not]; intro e
        rcases hM.2 with f | f <;> (rw [f] at e; exact absurd e (by decide))
      rw [this]; simp [dcT]
  | [q] =>
    match M, hM with
    | [], _ => rfl
    | r :: M, hM =>
      rw [List.cons_append, List.nil_append, dcT, hM.1]; simp [dcT]
  | q :: r :: l => rfl
theorem fst_app {M : List Tk} (hM : HdS M) (p : Tk) (l : List Tk) (h : (fstT p l).2 ≠ 0) : fstT p (l ++ M) = fstT p l := by
  unfold fstT at h ⊢
  by_cases hq : qt p = true
  · rw [if_pos hq] at h ⊢
    rw [if_pos hq, toQ_app hM _ l 1 (Nat.le_refl _) h]
  · rw [if_neg hq] at h ⊢
    rw [if_neg hq, toS_app hM, prT_app hM, dcT_app hM]
theorem toks_left (a c : ByteArray) {M : List Tk} (hM : HdS M) : ∀ (n N : Nat) (L A T : List Tk) (b : Nat), Od a b L → L.length ≤ n → (L ++ M).length ≤ N → toksF a n L A = .inr T →
    ∃ T0 N', T = T0 ++ [(0, ⟨#[]⟩, (a.size : Int))] ∧ M.length ≤ N' ∧ toksF (a ++ c) N (L ++ M) A = toksF (a ++ c) N' M T0
  | n, N, [], A, T, b, ho, h1, h2, h => by
    have e : T = A ++ [(0, ⟨#[]⟩, (a.size : Int))] := by
      cases n <;> (simp only [toksF, Sum.inr.injEq] at h; exact h.symm)
    exact ⟨A, N, e, by simpa using h2, rfl⟩
  | 0, N, p :: l, A, T, b, ho, h1, h2, h => by simp at h1
  | n + 1, 0, p :: l, A, T, b, ho, h1, h2, h => by simp at h2
  | n + 1, N + 1, p :: l, A, T, b, ho, h1, h2, h => by
    rw [toksF] at h
    by_cases hm : (fstT p l).2 = 0
    · rw [if_pos hm] at h; exact absurd h (by simp)
    · rw [if_neg hm] at h
      have hle := fst_le p l
      rw [List.cons_append, toksF, fst_app hM p l hm, if_neg hm]
      have e1 : (p :: (l ++ M)).drop (fstT p l).2 = (p :: l).drop (fstT p l).2 ++ M := by
        rw [← List.cons_append, List.drop_append_of_le_length (by simpa using hle)]
      have e2 : tokT (a ++ c) p (l ++ M) = tokT a p l := by
        unfold tokT
        rw [fst_app hM p l hm]
        obtain ⟨q, hq, h3, h4, h5, h6, h7⟩ := end_at ho (m := (fstT p l).2) (by omega) hle
        have e3 : endN (p :: (l ++ M)) ((fstT p l).2 - 1) = endN (p :: l) ((fstT p l).2 - 1) := by
          unfold endN
          rw [← List.cons_append, List.getElem?_append_left (by simp only [List.length_cons]; omega)]
        rw [e3, ext_left _ _ _ _ (by omega)]
      rw [e1, e2]
      simp only [List.length_cons, List.length_append] at h1 h2
      exact toks_left a c hM n N _ _ T b (Od_drop _ _ _ ho) (by simp only [List.length_drop, List.length_cons]; omega) (by simp only [List.length_append, List.length_drop, List.length_cons]; omega) h

/-! ### tokens -/
theorem toksB_get {s : ByteArray} {T : List Tk} (h : toksB s = .inr T) : ∃ P, splitB s = .inr P ∧ toksF s P.length (texts s P) [] = .inr T := by
  unfold toksB at h
  cases hp : splitB s with
  | inl i => rw [hp] at h; exact absurd h (by simp)
  | inr P =>
    rw [hp] at h
    dsimp only at h
    cases hf : toksF s P.length (texts s P) [] with
    | inl i => rw [hf] at h; exact absurd h (by simp)
    | inr T' => rw [hf] at h; simp only [Sum.inr.injEq] at h; subst h; exact ⟨P, rfl, hf⟩
theorem toksB_of {s : ByteArray} {P : List Prt} {T : List Tk} (hp : splitB s = .inr P) (hf : toksF s P.length (texts s P) [] = .inr T) : toksB s = .inr T := by
  unfold toksB; rw [hp]; dsimp only; rw [hf]
theorem toks_sign {x : UInt8} (hx : Br x) {c : ByteArray} {T : List Tk} (h : toksB c = .inr T) : toksB ((⟨#[x]⟩ : ByteArray) ++ c) = .inr ((5, ⟨#[x]⟩, 0) :: T.map (shK 1)) := by
  obtain ⟨P, hp, hf⟩ := toksB_get h
  refine toksB_of (splitB_sign hx hp) ?_
  have e1 : texts ((⟨#[x]⟩ : ByteArray) ++ c) ((3, 0, 1) :: P.map (sh 1)) = (3, ⟨#[x]⟩, 0) :: (texts c P).map (shK 1) := by
    have := texts_right (⟨#[x]⟩ : ByteArray) c P
    rw [one_size] at this
    rw [← this]
    unfold texts
    rw [List.map_cons]
    congr 1
    show (3, ((⟨#[x]⟩ : ByteArray) ++ c).extract 0 1, ((0 : Nat) : Int)) = _
    rw [ext_left _ _ _ _ (by rw [one_size]; omega)]
    rcases hx with rfl | rfl <;> decide
  rw [e1]
  have e2 : fstT (3, ⟨#[x]⟩, 0) ((texts c P).map (shK 1)) = (5, 1) := by
    unfold fstT
    have : qt (3, ⟨#[x]⟩, 0) = false := by rcases hx with rfl | rfl <;> decide
    rw [this, if_neg (by simp), if_neg (by simp), if_pos rfl]
    have : prT (3, ⟨#[x]⟩, 0) ((texts c P).map (shK 1)) = false := by
      cases (texts c P).map (shK 1) with
      | nil => rfl
      | cons q l =>
        rw [prT]
        have k : ∀ (y z : UInt8), y ≠ 40 → y ≠ 41 → (⟨#[x]⟩ : ByteArray) ++ q.2.1 ≠ ⟨#[y, z]⟩ := by
          intro y z h0 h1 e
          have q := congrArg (fun b : ByteArray => b.data.toList.head?) e
          simp at q
          rcases hx with rfl | rfl
          · exact h0 q.symm
          · exact h1 q.symm
        have : isPr ((⟨#[x]⟩ : ByteArray) ++ q.2.1) = false := by
          unfold isPr
          simp only [Bool.or_eq_false_iff, decide_eq_false_iff_not]
          exact ⟨⟨⟨k _ _ (by decide) (by decide), k _ _ (by decide) (by decide)⟩, k _ _ (by decide) (by decide)⟩, k _ _ (by decide) (by decide)⟩
        rw [this]; simp
    rw [this]; rfl
  have e3 : tokT ((⟨#[x]⟩ : ByteArray) ++ c) (3, ⟨#[x]⟩, 0) ((texts c P).map (shK 1)) = (5, ⟨#[x]⟩, 0) := by
    unfold tokT
    rw [e2]
    show (5, saidT 5 (((⟨#[x]⟩ : ByteArray) ++ c).extract 0 1), 0) = _
    rw [ext_left _ _ _ _ (by rw [one_size]; omega)]
    rcases hx with rfl | rfl <;> decide
  rw [List.length_cons, List.length_map, toksF, e2, if_neg (by simp), e3]
  have := toks_right (⟨#[x]⟩ : ByteArray) c [(5, ⟨#[x]⟩, 0)] P.length P.length (texts c P) [] T 0 (Od_cov c P 0 _ (splitB_cov hp)) (by rw [texts_length]; omega) (by rw [texts_length]; omega) hf
  simpa [one_size] using this
theorem toks_cat {x : UInt8} (hx : Br x) {a c : ByteArray} {TA T : List Tk} (ha : toksB a = .inr (TA ++ [(0, ⟨#[]⟩, (a.size : Int))])) (hc : toksB c = .inr T) : toksB (a ++ ((⟨#[x]⟩ : ByteArray) ++ c)) = .inr (TA ++ ((5, ⟨#[x]⟩, 0) :: T.map (shK 1)).map (shK a.size)) := by
  have hC := toks_sign hx hc
  obtain ⟨P0, hp0, _⟩ := toksB_get hc
  have hs := splitB_sign hx hp0
  obtain ⟨P, hp, hf⟩ := toksB_get ha
  obtain ⟨P2, hp2, hf2⟩ := toksB_get hC
  have hP2 : P2 = (3, 0, 1) :: P0.map (sh 1) := by rw [hp2] at hs; simpa using hs
  refine toksB_of (splitB_cat hx hp hp2) ?_
  have hH : HdS ((texts ((⟨#[x]⟩ : ByteArray) ++ c) P2).map (shK a.size)) := by
    rw [hP2]
    unfold texts
    rw [List.map_cons, List.map_cons]
    refine ⟨rfl, ?_⟩
    show ((⟨#[x]⟩ : ByteArray) ++ c).extract 0 1 = _ ∨ ((⟨#[x]⟩ : ByteArray) ++ c).extract 0 1 = _
    rw [ext_left _ _ _ _ (by rw [one_size]; omega)]
    rcases hx with rfl | rfl
    · exact .inl (by decide)
    · exact .inr (by decide)
  generalize hCC : (⟨#[x]⟩ : ByteArray) ++ c = C at *
  rw [texts_append, texts_left a C P 0 _ (splitB_cov hp), texts_right]
  obtain ⟨T0, N', e0, h1, h2⟩ := toks_left a C hH P.length (P ++ P2.map (sh a.size)).length (texts a P) [] _ 0 (Od_cov a P 0 _ (splitB_cov hp)) (by rw [texts_length]; omega) (by simp [texts_length]) hf
  have e0' : TA = T0 := List.append_cancel_right e0
  subst e0'
  rw [h2]
  have := toks_right a C TA P2.length N' (texts C P2) [] _ 0 (Od_cov C P2 0 _ (splitB_cov hp2)) (by rw [texts_length]; omega) (by simpa using h1) hf2
  simpa using this

end Go.Proofs.YtcmefhnfdcngfaaDoor
