import Derived.Test.YtaoocecipacnhaaDoorWz
import Derived.Test.YtaoocecipacnhaaDoorW15
import Derived.Test.YtaoocecipacnhaaDoorW5
import Derived.Test.YtaoocecipacnhaaDoorW16
open Go.Value renaming int → vi
open Go.IntKind renaming i64 → ki
open List renaming setIfInBounds_toArray → zb, set_cons_zero → zc, set_cons_succ → zd
open Go.Act renaming put → za
open Go.Ending renaming returned → zr
set_option maxRecDepth 100000
set_option maxHeartbeats 16000000
set_option linter.unusedVariables false
namespace Go.Proofs.YtaoocecipacnhaaDoor
open Go.RowKit
theorem ext_left (a c : ByteArray) (i j : Nat) (h : j ≤ a.size) : (a ++ c).extract i j = a.extract i j := by
 rw [ByteArray.extract_append, show j - a.size = 0 by omega]
 have : c.extract (i - a.size) 0 = ByteArray.empty := by
  apply ByteArray.ext; simp
 rw [this]; simp
def HdS : List Tk → Prop
 | [] => True
 | q :: _ => q.1 = 3 ∧ (q.2.1 = ⟨#[40]⟩ ∨ q.2.1 = ⟨#[41]⟩)
theorem HdS.qt {q : Tk} {M : List Tk} (h : HdS (q :: M)) : qt q = false := by
 unfold Go.Proofs.YtaoocecipacnhaaDoor.qt
 rw [decide_eq_false_iff_not]
 intro e
 rcases h.2 with f | f <;> (rw [f] at e; exact absurd e (by decide))
theorem isPr_br (t : ByteArray) {u : ByteArray} (h : u = ⟨#[40]⟩ ∨ u = ⟨#[41]⟩) : isPr (t ++ u) = false := by
 have k : ∀ (x y : UInt8), y ≠ 40 → y ≠ 41 → t ++ u ≠ ⟨#[x, y]⟩ := by
  intro x y h0 h1 e
  have q := congrArg (fun b : ByteArray => b.data.toList.getLast?) e
  rcases h with rfl | rfl
  ·simp at q; exact h0 q.symm
  ·simp at q; exact h1 q.symm
 unfold isPr
 simp only [Bool.or_eq_false_iff, decide_eq_false_iff_not]
 exact ⟨⟨⟨k _ _ (by decide) (by decide), k _ _ (by decide) (by decide)⟩, k _ _ (by decide) (by decide)⟩, k _ _ (by decide) (by decide)⟩
theorem toQ_app {M : List Tk} (hM : HdS M) : ∀ (k : Nat) (l : List Tk) (i : Nat), l.length ≤ k → toQ i l ≠ 0 → toQ i (l ++ M) = toQ i l
 | _, [], i, _, h => by simp [toQ] at h
 | _, [p], i, _, h => by
  cases M with
  | nil => rfl
  | cons q M =>
   rw [toQ] at h ⊢
   by_cases hp : qt p = true
   ·rw [if_pos hp, List.cons_append, List.nil_append, toQ, if_pos hp, hM.qt]; simp
   ·rw [if_neg hp] at h; exact absurd rfl h
 | 0, p :: q :: l, i, h, _ => by simp at h
 | k + 1, p :: q :: l, i, h, hz => by
  simp only [List.length_cons] at h
  rw [toQ] at hz
  rw [List.cons_append, List.cons_append, toQ, toQ]
  by_cases hp : qt p = true
  ·rw [if_pos hp] at hz ⊢
   rw [if_pos hp]
   by_cases hq : (besT p q && qt q) = true
   ·rw [if_pos hq] at hz ⊢
    rw [if_pos hq]
    exact toQ_app hM k l _ (by omega) hz
   ·rw [if_neg hq, if_neg hq]
  ·rw [if_neg hp] at hz ⊢
   rw [if_neg hp]
   exact toQ_app hM k (q :: l) _ (by simp only [List.length_cons]; omega) hz
theorem toS_app {M : List Tk} (hM : HdS M) : ∀ (l : List Tk) (m : Nat) (p : Tk), toS m p (l ++ M) = toS m p l
 | [], m, p => by
  cases M with
  | nil => rfl
  | cons q M => rw [List.nil_append]; simp [toS, hM.1]
 | q :: l, m, p => by rw [List.cons_append, toS, toS, toS_app hM l]
theorem prT_app {M : List Tk} (hM : HdS M) (p : Tk) (l : List Tk) : prT p (l ++ M) = prT p l := by
 cases l with
 | nil =>
  cases M with
  | nil => rfl
  | cons q M => rw [List.nil_append, prT, prT, isPr_br _ hM.2]; simp
 | cons q l => rfl
theorem dcT_app {M : List Tk} (hM : HdS M) (p : Tk) (l : List Tk) : dcT p (l ++ M) = dcT p l := by
 match l with
 | [] =>
  match M, hM with
  | [], _ => rfl
  | [q], _ => rfl
  | q :: r :: M, hM =>
   rw [List.nil_append, dcT]
   have : decide (q.2.1 = ⟨#[46]⟩) = false := by
    rw [decide_eq_false_iff_not]; intro e
    rcases hM.2 with f | f <;> (rw [f] at e; exact absurd e (by decide))
   rw [this]; simp [dcT]
 | [q] =>
  match M, hM with
  | [], _ => rfl
  | r :: M, hM =>
   rw [List.cons_append, List.nil_append, dcT, hM.1]; simp [dcT]
 | q :: r :: l => rfl
theorem fst_app {M : List Tk} (hM : HdS M) (p : Tk) (l : List Tk) (h : (fstT p l).2 ≠ 0) : fstT p (l ++ M) = fstT p l := by
 unfold fstT at h ⊢
 by_cases hq : qt p = true
 ·rw [if_pos hq] at h ⊢
  rw [if_pos hq, toQ_app hM _ l 1 (Nat.le_refl _) h]
 ·rw [if_neg hq] at h ⊢
  rw [if_neg hq, toS_app hM, prT_app hM, dcT_app hM]
theorem toks_left (a c : ByteArray) {M : List Tk} (hM : HdS M) : ∀ (n N : Nat) (L A T : List Tk) (b : Nat), Od a b L → L.length ≤ n → (L ++ M).length ≤ N → toksF a n L A = .inr T →
  ∃ T0 N', T = T0 ++ [(0, ⟨#[]⟩, (a.size : Int))] ∧ M.length ≤ N' ∧ toksF (a ++ c) N (L ++ M) A = toksF (a ++ c) N' M T0
 | n, N, [], A, T, b, ho, h1, h2, h => by
  have e : T = A ++ [(0, ⟨#[]⟩, (a.size : Int))] := by
   cases n <;> (simp only [toksF, Sum.inr.injEq] at h; exact h.symm)
  exact ⟨A, N, e, by simpa using h2, rfl⟩
 | 0, N, p :: l, A, T, b, ho, h1, h2, h => by simp at h1
 | n + 1, 0, p :: l, A, T, b, ho, h1, h2, h => by simp at h2
 | n + 1, N + 1, p :: l, A, T, b, ho, h1, h2, h => by
  rw [toksF] at h
  by_cases hm : (fstT p l).2 = 0
  ·rw [if_pos hm] at h; exact absurd h (by simp)
  ·rw [if_neg hm] at h
   have hle := fst_le p l
   rw [List.cons_append, toksF, fst_app hM p l hm, if_neg hm]
   have e1 : (p :: (l ++ M)).drop (fstT p l).2 = (p :: l).drop (fstT p l).2 ++ M := by
    rw [← List.cons_append, List.drop_append_of_le_length (by simpa using hle)]
   have e2 : tokT (a ++ c) p (l ++ M) = tokT a p l := by
    unfold tokT
    rw [fst_app hM p l hm]
    obtain ⟨q, hq, h3, h4, h5, h6, h7⟩ := end_at ho (m := (fstT p l).2) (by omega) hle
    have e3 : endN (p :: (l ++ M)) ((fstT p l).2 - 1) = endN (p :: l) ((fstT p l).2 - 1) := by
     unfold endN
     rw [← List.cons_append, List.getElem?_append_left (by simp only [List.length_cons]; omega)]
    rw [e3, ext_left _ _ _ _ (by omega)]
   rw [e1, e2]
   simp only [List.length_cons, List.length_append] at h1 h2
   exact toks_left a c hM n N _ _ T b (Od_drop _ _ _ ho) (by simp only [List.length_drop, List.length_cons]; omega) (by simp only [List.length_append, List.length_drop, List.length_cons]; omega) h
theorem toksB_get {s : ByteArray} {T : List Tk} (h : toksB s = .inr T) : ∃ P, splitB s = .inr P ∧ toksF s P.length (texts s P) [] = .inr T := by
 unfold toksB at h
 cases hp : splitB s with
 | inl i => rw [hp] at h; exact absurd h (by simp)
 | inr P =>
  rw [hp] at h
  dsimp only at h
  cases hf : toksF s P.length (texts s P) [] with
  | inl i => rw [hf] at h; exact absurd h (by simp)
  | inr T' => rw [hf] at h; simp only [Sum.inr.injEq] at h; subst h; exact ⟨P, rfl, hf⟩
theorem EndL.init : ∀ {A : List Tk} {e : Tk}, EndL (A ++ [e]) → ∀ t ∈ A, t.1 ≠ 0
 | [], e, h, t, ht => by simp at ht
 | [p], e, h, t, ht => by simp at ht; subst ht; exact h.1
 | p :: q :: A, e, h, t, ht => by
  rcases List.mem_cons.1 ht with rfl | ht
  ·exact h.1
  ·exact EndL.init (A := q :: A) (e := e) h.2 t ht
theorem parse_toks {s : ByteArray} {n : Nd} (hs : s.size ≤ 2048) (h : parseB s = .inr n) : ∃ A e, toksB s = .inr (A ++ [(0, ⟨#[]⟩, (s.size : Int))]) ∧ (∀ t ∈ A, t.1 ≠ 0) ∧ e.1 = 0 ∧ par (10 * (A.length + 1) + 10) (.lv 0) 0 (A ++ [(0, ⟨#[]⟩, (s.size : Int))]) = .ok n [e] := by
 unfold parseB at h
 cases ht : toksB s with
 | inl x => rw [ht] at h; exact absurd h (by simp)
 | inr T =>
  rw [ht] at h
  dsimp only at h
  obtain ⟨P, hp, hf⟩ := toksB_get ht
  obtain ⟨A, _, e0, _⟩ := toks_left s (⟨#[]⟩ : ByteArray) (M := []) trivial P.length (texts s P).length (texts s P) [] T 0 (Od_cov s P 0 _ (splitB_cov hp)) (by rw [texts_length]; omega) (by simp) hf
  subst e0
  have hE := (toksB_end ht hs).1
  cases hr : par (10 * (A ++ [((0, ⟨#[]⟩, (s.size : Int)) : Tk)]).length + 10) (.lv 0) 0 (A ++ [((0, ⟨#[]⟩, (s.size : Int)) : Tk)]) with
  | no a e => rw [hr] at h; simp [endT] at h
  | ok m l1 =>
   rw [hr] at h
   have hl := par_less (by simp [okTg]) hE (by simp [need]) hr
   cases l1 with
   | nil => exact hl.1.elim
   | cons q l1 =>
    rw [endT] at h
    by_cases hq : isT q [(0, ⟨#[]⟩)] = true
    ·rw [if_pos hq] at h
     simp only [Sum.inr.injEq] at h; subst h
     have hq0 : q.1 = 0 := by
      obtain ⟨x, hx, hd⟩ := List.any_eq_true.1 hq
      simp at hx; subst hx
      exact (of_decide_eq_true hd).1
     cases l1 with
     | nil => exact ⟨A, q, rfl, EndL.init hE, hq0, by simpa using hr⟩
     | cons u l2 => exact absurd hq0 hl.1.1
    ·rw [if_neg hq] at h; exact absurd h (by simp)
mutual
def cnN : Nd → Nat
 | .mk _ _ ks _ => 1 + cnL ks
def cnL : List Nd → Nat
 | [] => 0
 | n :: l => cnN n + cnL l
end
theorem cnL_append : ∀ (l m : List Nd), cnL (l ++ m) = cnL l + cnL m
 | [], m => by rw [cnL, List.nil_append, Nat.zero_add]
 | n :: l, m => by rw [List.cons_append, cnL, cnL, cnL_append l m]; omega
theorem cn_pos (n : Nd) : 1 ≤ cnN n := by cases n; rw [cnN]; omega
theorem cn_kids (n : Nd) : cnN n = 1 + cnL n.ks := by cases n; rw [cnN]
theorem cnL_len : ∀ l : List Nd, l.length ≤ cnL l
 | [] => by simp [cnL]
 | n :: l => by have := cnL_len l; have := cn_pos n; rw [cnL, List.length_cons]; omega
theorem cnL_mem : ∀ {l : List Nd} {n : Nd}, n ∈ l → cnN n ≤ cnL l
 | m :: l, n, h => by
  rw [cnL]
  rcases List.mem_cons.1 h with rfl | h
  ·omega
  ·have := cnL_mem h; omega
theorem tzL_append : ∀ (l m : List Nd), tzL (l ++ m) = (tzL l && tzL m)
 | [], m => by simp [tzL]
 | n :: l, m => by rw [List.cons_append, tzL, tzL, tzL_append l m, Bool.and_assoc]
theorem tz_kids {n : Nd} (h : tzN n = true) : tzL n.ks = true := by cases n; rw [tzN, Bool.and_eq_true] at h; exact h.2
def Ts (p : Tk) : Prop := p.2.1.size ≤ 100000
theorem tz_leaf {p : Tk} (h : Ts p) (k a : Int) : tzN (.mk k p.2.1 [] a) = true := by unfold Ts at h; rw [tzN, tzL]; simpa using h
theorem tz_mk {t : ByteArray} (h : t.size ≤ 100000) (k a : Int) {ks : List Nd} (hk : tzL ks = true) : tzN (.mk k t ks a) = true := by rw [tzN, hk]; simpa using h
theorem tz_one {t : ByteArray} (h : t.size ≤ 100000) (k a : Int) {n : Nd} (hn : tzN n = true) : tzN (.mk k t [n] a) = true := tz_mk h k a (by rw [tzL, tzL, hn]; rfl)
theorem tz_two {t : ByteArray} (h : t.size ≤ 100000) (k a : Int) {n m : Nd} (hn : tzN n = true) (hm : tzN m = true) : tzN (.mk k t [n, m] a) = true := tz_mk h k a (by rw [tzL, tzL, tzL, hn, hm]; rfl)
theorem cn_leaf (k : Int) (t : ByteArray) (a : Int) : cnN (.mk k t [] a) = 1 := by rw [cnN, cnL]
theorem cn_one (k : Int) (t : ByteArray) (a : Int) (n : Nd) : cnN (.mk k t [n] a) = 1 + cnN n := by rw [cnN, cnL, cnL]; omega
theorem cn_two (k : Int) (t : ByteArray) (a : Int) (n m : Nd) : cnN (.mk k t [n, m] a) = 1 + cnN n + cnN m := by rw [cnN, cnL, cnL, cnL]; omega
def ex : Tg → Nat
 | .lv _ => 0
 | .lp _ n => cnN n
 | .zs n => cnN n
 | .cs n => cnN n
 | .ks acc => cnL acc + 1
def TzT : Tg → Prop
 | .lv _ => True
 | .lp _ n => tzN n = true
 | .zs n => tzN n = true
 | .cs n => tzN n = true
 | .ks acc => tzL acc = true
def SzR (g : Tg) (L : List Tk) : PR → Prop
 | .no _ _ => True
 | .ok n l1 => tzN n = true ∧ cnN n + l1.length ≤ ex g + L.length ∧ ∀ t ∈ l1, Ts t
def SzI (r : Tg → Nat → List Tk → PR) : Prop := ∀ g d L, TzT g → (∀ t ∈ L, Ts t) → SzR g L (r g d L)
theorem SzI.ok {r : Tg → Nat → List Tk → PR} (H : SzI r) {g : Tg} {d : Nat} {L : List Tk} {n : Nd} {l1 : List Tk} (hg : TzT g) (hL : ∀ t ∈ L, Ts t) (h : r g d L = .ok n l1) : tzN n = true ∧ cnN n + l1.length ≤ ex g + L.length ∧ ∀ t ∈ l1, Ts t := by
 have := H g d L hg hL; rw [h] at this; exact this
theorem SzI.lv {r : Tg → Nat → List Tk → PR} (H : SzI r) {lev d : Nat} {L : List Tk} {n : Nd} {l1 : List Tk} (hL : ∀ t ∈ L, Ts t) (h : r (.lv lev) d L = .ok n l1) : tzN n = true ∧ cnN n + l1.length ≤ ex (.lv lev) + L.length ∧ ∀ t ∈ l1, Ts t := H.ok (g := .lv lev) trivial hL h
theorem emp_size : ByteArray.empty.size ≤ 100000 := by decide
theorem atz_size : atzB.size ≤ 100000 := by decide
theorem pst_sz {r : Tg → Nat → List Tk → PR} (H : SzI r) : SzI (pst r) := by
 intro g d L hg hL
 cases hR : pst r g d L with
 | no a e => trivial
 | ok n l1 =>
  have h := hR
  clear hR
  show tzN n = true ∧ cnN n + l1.length ≤ ex g + L.length ∧ ∀ t ∈ l1, Ts t
  cases L with
  | nil => cases g <;> cases h
  | cons p l =>
   have hp := hL p (by simp)
   have hl : ∀ t ∈ l, Ts t := fun t ht => hL t (by simp [ht])
   simp only [List.length_cons]
   cases g with
   | lv lev =>
    unfold pst at h; dsimp only at h
    by_cases h2 : lev = 2
    ·rw [if_pos h2] at h
     by_cases hq : isT p [(4, notB)] = true
     ·rw [if_pos hq] at h
      by_cases hd : d = 20
      ·rw [if_pos hd] at h; cases h
      rw [if_neg hd] at h
      cases hr : r (.lv 2) (d + 1) l with
      | no a e => rw [hr] at h; cases h
      | ok n1 l2 =>
       rw [hr] at h; cases h
       obtain ⟨q1, q2, q3⟩ := H.lv hl hr
       simp only [ex] at q2 ⊢
       exact ⟨tz_one emp_size _ _ q1, by rw [cn_one]; omega, q3⟩
     ·rw [if_neg hq] at h
      obtain ⟨q1, q2, q3⟩ := H.lv hL h
      simp only [ex, List.length_cons] at q2 ⊢
      exact ⟨q1, by omega, q3⟩
    rw [if_neg h2] at h
    by_cases h6 : lev = 6
    ·rw [if_pos h6] at h
     by_cases hq : isT p [(5, b1 45)] = true
     ·rw [if_pos hq] at h
      by_cases hd : d = 20
      ·rw [if_pos hd] at h; cases h
      rw [if_neg hd] at h
      cases hr : r (.lv 6) (d + 1) l with
      | no a e => rw [hr] at h; cases h
      | ok n1 l2 =>
       rw [hr] at h; cases h
       obtain ⟨q1, q2, q3⟩ := H.lv hl hr
       simp only [ex] at q2 ⊢
       exact ⟨tz_one emp_size _ _ q1, by rw [cn_one]; omega, q3⟩
     ·rw [if_neg hq] at h
      obtain ⟨q1, q2, q3⟩ := H.lv hL h
      simp only [ex, List.length_cons] at q2 ⊢
      exact ⟨q1, by omega, q3⟩
    rw [if_neg h6] at h
    by_cases h3 : lev = 3
    ·rw [if_pos h3] at h
     cases hr : r (.lv 4) d (p :: l) with
     | no a e => rw [hr] at h; cases h
     | ok n1 l2 =>
      rw [hr] at h
      obtain ⟨q1, q2, q3⟩ := H.lv hL hr
      dsimp only at h
      simp only [ex, List.length_cons] at q2 ⊢
      cases l2 with
      | nil => cases h
      | cons q l2 =>
       unfold cmpK at h
       dsimp only at h
       simp only [List.length_cons] at q2
       by_cases hq : isT q (sgs 3) = true
       ·rw [if_pos hq] at h
        cases hr2 : r (.lv 4) d l2 with
        | no a e => rw [hr2] at h; cases h
        | ok n2 l3 =>
         rw [hr2] at h; cases h
         obtain ⟨u1, u2, u3⟩ := H.lv (fun t ht => q3 t (by simp [ht])) hr2
         simp only [ex] at u2
         exact ⟨tz_two (q3 q (by simp)) _ _ q1 u1, by rw [cn_two]; omega, u3⟩
       ·rw [if_neg hq] at h; cases h; exact ⟨q1, by simp only [List.length_cons]; omega, q3⟩
    rw [if_neg h3] at h
    by_cases h7 : lev = 7
    ·rw [if_pos h7] at h
     cases hr : r (.lv 8) d (p :: l) with
     | no a e => rw [hr] at h; cases h
     | ok n1 l2 =>
      rw [hr] at h
      obtain ⟨q1, q2, q3⟩ := H.lv hL hr
      obtain ⟨u1, u2, u3⟩ := H.ok (show TzT (.zs n1) from q1) q3 h
      simp only [ex, List.length_cons] at q2 u2 ⊢
      exact ⟨u1, by omega, u3⟩
    rw [if_neg h7] at h
    by_cases h8 : lev = 8
    ·rw [if_pos h8] at h
     cases hr : r (.lv 9) d (p :: l) with
     | no a e => rw [hr] at h; cases h
     | ok n1 l2 =>
      rw [hr] at h
      obtain ⟨q1, q2, q3⟩ := H.lv hL hr
      obtain ⟨u1, u2, u3⟩ := H.ok (show TzT (.cs n1) from q1) q3 h
      simp only [ex, List.length_cons] at q2 u2 ⊢
      exact ⟨u1, by omega, u3⟩
    rw [if_neg h8] at h
    by_cases h9 : lev = 9
    ·rw [if_pos h9] at h
     by_cases p1 : p.1 = 1
     ·rw [if_pos p1] at h; cases h; exact ⟨tz_leaf hp _ _, by rw [cn_leaf]; simp only [ex]; omega, hl⟩
     rw [if_neg p1] at h
     by_cases p2 : p.1 = 2
     ·rw [if_pos p2] at h; cases h; exact ⟨tz_leaf hp _ _, by rw [cn_leaf]; simp only [ex]; omega, hl⟩
     rw [if_neg p2] at h
     by_cases p3 : p.1 = 3
     ·rw [if_pos p3] at h; cases h; exact ⟨tz_leaf hp _ _, by rw [cn_leaf]; simp only [ex]; omega, hl⟩
     rw [if_neg p3] at h
     by_cases p4 : isT p [(4, trueB), (4, falseB)] = true
     ·rw [if_pos p4] at h; cases h; exact ⟨tz_leaf hp _ _, by rw [cn_leaf]; simp only [ex]; omega, hl⟩
     rw [if_neg p4] at h
     by_cases p5 : isT p [(5, b1 40)] = true
     ·rw [if_pos p5] at h
      by_cases hd : d = 20
      ·rw [if_pos hd] at h; cases h
      rw [if_neg hd] at h
      cases hr : r (.lv 0) (d + 1) l with
      | no a e => rw [hr] at h; cases h
      | ok n1 l2 =>
       rw [hr] at h
       obtain ⟨q1, q2, q3⟩ := H.lv hl hr
       simp only [ex] at q2 ⊢
       cases l2 with
       | nil => cases h
       | cons q l2 =>
        dsimp only at h
        simp only [List.length_cons] at q2
        by_cases hq : isT q [(5, b1 41)] = true
        ·rw [if_pos hq] at h; cases h; exact ⟨q1, by omega, fun t ht => q3 t (by simp [ht])⟩
        ·rw [if_neg hq] at h; cases h
     rw [if_neg p5] at h
     by_cases p6 : free p = true
     ·rw [if_pos p6] at h
      cases l with
      | nil => cases h
      | cons q l2 =>
       dsimp only at h
       simp only [ex, List.length_cons]
       have hq := hl q (by simp)
       have hl2 : ∀ t ∈ l2, Ts t := fun t ht => hl t (by simp [ht])
       by_cases q1 : q.1 = 3 ∧ typB p.2.1 = true
       ·rw [if_pos q1] at h; cases h; exact ⟨tz_one hp _ _ (tz_leaf hq _ _), by rw [cn_one, cn_leaf]; omega, hl2⟩
       rw [if_neg q1] at h
       by_cases q2 : isT q [(5, b1 40)] = true
       ·rw [if_pos q2] at h
        by_cases hd : d = 20
        ·rw [if_pos hd] at h; cases h
        rw [if_neg hd] at h
        cases l2 with
        | nil => cases h
        | cons u l3 =>
         dsimp only at h
         by_cases hu : isT u [(5, b1 41)] = true
         ·rw [if_pos hu] at h; cases h; exact ⟨tz_leaf hp _ _, by rw [cn_leaf]; simp only [List.length_cons]; omega, fun t ht => hl2 t (by simp [ht])⟩
         rw [if_neg hu] at h
         cases hr : r (.ks []) (d + 1) (u :: l3) with
         | no a e => rw [hr] at h; cases h
         | ok n1 l4 =>
          rw [hr] at h; cases h
          obtain ⟨u1, u2, u3⟩ := H.ok (show TzT (.ks []) from rfl) hl2 hr
          simp only [ex, cnL, List.length_cons] at u2 ⊢
          rw [cn_kids n1] at u2
          exact ⟨tz_mk hp _ _ (tz_kids u1), by rw [cnN]; omega, u3⟩
       ·rw [if_neg q2] at h; cases h
     ·rw [if_neg p6] at h; cases h
    rw [if_neg h9] at h
    cases hr : r (.lv (lev + 1)) d (p :: l) with
    | no a e => rw [hr] at h; cases h
    | ok n1 l2 =>
     rw [hr] at h
     obtain ⟨q1, q2, q3⟩ := H.lv hL hr
     obtain ⟨u1, u2, u3⟩ := H.ok (show TzT (.lp lev n1) from q1) q3 h
     simp only [ex, List.length_cons] at q2 u2 ⊢
     exact ⟨u1, by omega, u3⟩
   | lp lev m =>
    unfold pst at h; dsimp only at h
    simp only [ex]
    by_cases hq : isT p (sgs lev) = true
    ·rw [if_pos hq] at h
     cases hr : r (.lv (lev + 1)) d l with
     | no a e => rw [hr] at h; cases h
     | ok n1 l2 =>
      rw [hr] at h
      obtain ⟨q1, q2, q3⟩ := H.lv hl hr
      obtain ⟨u1, u2, u3⟩ := H.ok (show TzT (.lp lev _) from tz_two hp _ _ hg q1) q3 h
      simp only [ex, cn_two] at q2 u2
      exact ⟨u1, by omega, u3⟩
    ·rw [if_neg hq] at h; cases h; exact ⟨hg, by simp only [List.length_cons]; omega, hL⟩
   | zs m =>
    unfold pst at h; dsimp only at h
    simp only [ex]
    by_cases hq : isT p [(4, atB)] = true
    ·rw [if_pos hq] at h
     cases l with
     | nil => cases h
     | cons t l2 =>
      dsimp only at h
      by_cases ht : isT t [(4, timeB)] = true
      ·rw [if_pos ht] at h
       cases l2 with
       | nil => cases h
       | cons z l3 =>
        dsimp only at h
        by_cases hz : isT z [(4, zoneB)] = true
        ·rw [if_pos hz] at h
         cases hr : r (.lv 8) d l3 with
         | no a e => rw [hr] at h; cases h
         | ok n1 l4 =>
          rw [hr] at h
          obtain ⟨q1, q2, q3⟩ := H.lv (fun x hx => hl x (by simp [hx])) hr
          obtain ⟨u1, u2, u3⟩ := H.ok (show TzT (.zs _) from tz_two atz_size _ _ hg q1) q3 h
          simp only [ex, cn_two, List.length_cons] at q2 u2 ⊢
          exact ⟨u1, by omega, u3⟩
        ·rw [if_neg hz] at h; cases h
      ·rw [if_neg ht] at h; cases h
    ·rw [if_neg hq] at h; cases h; exact ⟨hg, by simp only [List.length_cons]; omega, hL⟩
   | cs m =>
    unfold pst at h; dsimp only at h
    simp only [ex]
    by_cases hq : isT p [(5, b2 58 58)] = true
    ·rw [if_pos hq] at h
     cases l with
     | nil => cases h
     | cons t l2 =>
      dsimp only at h
      by_cases ht : free t = true
      ·rw [if_pos ht] at h
       obtain ⟨u1, u2, u3⟩ := H.ok (show TzT (.cs _) from tz_one (hl t (by simp)) _ _ hg) (fun x hx => hl x (by simp [hx])) h
       simp only [ex, cn_one, List.length_cons] at u2 ⊢
       exact ⟨u1, by omega, u3⟩
      ·rw [if_neg ht] at h; cases h
    ·rw [if_neg hq] at h; cases h; exact ⟨hg, by simp only [List.length_cons]; omega, hL⟩
   | ks acc =>
    unfold pst at h; dsimp only at h
    simp only [ex]
    cases hr : r (.lv 0) d (p :: l) with
    | no a e => rw [hr] at h; cases h
    | ok n1 l2 =>
     rw [hr] at h
     obtain ⟨q1, q2, q3⟩ := H.lv hL hr
     simp only [ex, List.length_cons] at q2
     have hacc : tzL (acc ++ [n1]) = true := by rw [tzL_append, tzL, tzL, q1, show tzL acc = true from hg]; rfl
     have hcn : cnL (acc ++ [n1]) = cnL acc + cnN n1 := by rw [cnL_append, cnL, cnL]; omega
     cases l2 with
     | nil => cases h
     | cons q l2 =>
      dsimp only at h
      simp only [List.length_cons] at q2
      by_cases c1 : isT q [(5, b1 44)] = true
      ·rw [if_pos c1] at h
       obtain ⟨u1, u2, u3⟩ := H.ok (show TzT (.ks _) from hacc) (fun x hx => q3 x (by simp [hx])) h
       simp only [ex, hcn] at u2
       exact ⟨u1, by omega, u3⟩
      ·rw [if_neg c1] at h
       by_cases c2 : isT q [(5, b1 41)] = true
       ·rw [if_pos c2] at h; cases h; exact ⟨tz_mk emp_size _ _ hacc, by rw [cnN, hcn]; omega, fun x hx => q3 x (by simp [hx])⟩
       ·rw [if_neg c2] at h; cases h
theorem par_sz : ∀ f : Nat, SzI (par f)
 | 0 => fun g d L _ _ => trivial
 | f + 1 => pst_sz (par_sz f)
theorem unq_le : ∀ (k : Nat) (l : List UInt8), l.length ≤ k → (unq l).length ≤ l.length
 | _, [], _ => by simp [unq]
 | _, [c], _ => by simp [unq]
 | 0, a :: b :: l, h => by simp at h
 | k + 1, a :: b :: l, h => by
  simp only [List.length_cons] at h
  rw [unq]
  split
  ·have := unq_le k l (by omega); simp only [List.length_cons]; omega
  ·have := unq_le k (b :: l) (by simp only [List.length_cons]; omega); simp only [List.length_cons] at this ⊢; omega
theorem said_le (k : Int) (t : ByteArray) : (saidT k t).size ≤ t.size := by
 unfold saidT
 split
 ·rw [lowB_size]; omega
 ·split
  ·have := unq_le _ (t.extract 1 (t.size - 1)).data.toList (Nat.le_refl _)
   have e : (t.extract 1 (t.size - 1)).data.toList.length = (t.extract 1 (t.size - 1)).size := by simp
   rw [e, ByteArray.size_extract] at this
   show (unq (t.extract 1 (t.size - 1)).data.toList).toArray.size ≤ _
   rw [List.size_toArray]; omega
  ·omega
theorem toks_ts (s : ByteArray) (hs : s.size ≤ 2048) : ∀ (n : Nat) (L A T : List Tk), (∀ t ∈ A, Ts t) → toksF s n L A = .inr T → ∀ t ∈ T, Ts t
 | 0, L, A, T, hA, h => by
  simp only [toksF, Sum.inr.injEq] at h; subst h
  intro t ht
  rcases List.mem_append.1 ht with ht | ht
  ·exact hA t ht
  ·simp at ht; subst ht; exact Nat.zero_le _
 | n + 1, [], A, T, hA, h => by
  simp only [toksF, Sum.inr.injEq] at h; subst h
  intro t ht
  rcases List.mem_append.1 ht with ht | ht
  ·exact hA t ht
  ·simp at ht; subst ht; exact Nat.zero_le _
 | n + 1, p :: l, A, T, hA, h => by
  rw [toksF] at h
  split at h
  ·exact absurd h (by simp)
  ·refine toks_ts s hs n _ _ T (fun t ht => ?_) h
   rcases List.mem_append.1 ht with ht | ht
   ·exact hA t ht
   ·simp at ht; subst ht
    unfold Ts tokT
    have := said_le (fstT p l).1 (s.extract p.2.2.toNat (endN (p :: l) ((fstT p l).2 - 1)))
    rw [ByteArray.size_extract] at this
    show (saidT _ _).size ≤ _
    omega
theorem parse_sz {s : ByteArray} {n : Nd} (hs : s.size ≤ 2048) (h : parseB s = .inr n) : tzN n = true ∧ cnN n ≤ 2049 := by
 obtain ⟨A, e, ht, hA, he, hr⟩ := parse_toks hs h
 obtain ⟨P, hp, hf⟩ := toksB_get ht
 have hT := toks_ts s hs _ _ _ _ (by simp) hf
 obtain ⟨q1, q2, -⟩ := (par_sz _).lv hT hr
 have := (toksB_end ht hs).2
 simp only [ex] at q2
 exact ⟨q1, by omega⟩
end Go.Proofs.YtaoocecipacnhaaDoor
