import Derived.Test.YtcmefhnfdcngfaaDoorK27
import Derived.Test.YtcmefhnfdcngfaaDoorK13
/- The grammar of expressions in brackets: mathematics. -/
namespace Go.Proofs.YtcmefhnfdcngfaaDoor
open Go.RowKit
set_option linter.unusedVariables false

/-! ### more fuel -/
theorem pst_mono {r r' : Tg → Nat → List Tk → PR} (H : ∀ g d l n l1, r g d l = .ok n l1 → r' g d l = .ok n l1) : ∀ (g : Tg) (d : Nat) (L : List Tk) (n : Nd) (l1 : List Tk), pst r g d L = .ok n l1 → pst r' g d L = .ok n l1 := by
  intro g d L n l1 h
  cases L with
  | nil => cases g <;> cases h
  | cons p l =>
    cases g with
    | lv lev =>
      unfold pst at h ⊢; dsimp only at h ⊢
      by_cases h2 : lev = 2
      · rw [if_pos h2] at h ⊢
        by_cases hp : isT p [(4, notB)] = true
        · rw [if_pos hp] at h ⊢
          by_cases hd : d = 20
          · rw [if_pos hd] at h; cases h
          · rw [if_neg hd] at h ⊢
            cases hr : r (.lv 2) (d + 1) l with
            | no a e => rw [hr] at h; cases h
            | ok n1 l2 => rw [hr] at h; rw [H _ _ _ _ _ hr]; exact h
        · rw [if_neg hp] at h ⊢; exact H _ _ _ _ _ h
      rw [if_neg h2] at h ⊢
      by_cases h6 : lev = 6
      · rw [if_pos h6] at h ⊢
        by_cases hp : isT p [(5, b1 45)] = true
        · rw [if_pos hp] at h ⊢
          by_cases hd : d = 20
          · rw [if_pos hd] at h; cases h
          · rw [if_neg hd] at h ⊢
            cases hr : r (.lv 6) (d + 1) l with
            | no a e => rw [hr] at h; cases h
            | ok n1 l2 => rw [hr] at h; rw [H _ _ _ _ _ hr]; exact h
        · rw [if_neg hp] at h ⊢; exact H _ _ _ _ _ h
      rw [if_neg h6] at h ⊢
      by_cases h3 : lev = 3
      · rw [if_pos h3] at h ⊢
        cases hr : r (.lv 4) d (p :: l) with
        | no a e => rw [hr] at h; cases h
        | ok n1 l2 =>
          rw [hr] at h; rw [H _ _ _ _ _ hr]
          dsimp only at h ⊢
          cases l2 with
          | nil => cases h
          | cons q l2 =>
            unfold cmpK at h ⊢
            dsimp only at h ⊢
            by_cases hq : isT q (sgs 3) = true
            · rw [if_pos hq] at h ⊢
              cases hr2 : r (.lv 4) d l2 with
              | no a e => rw [hr2] at h; cases h
              | ok n2 l3 => rw [hr2] at h; rw [H _ _ _ _ _ hr2]; exact h
            · rw [if_neg hq] at h ⊢; exact h
      rw [if_neg h3] at h ⊢
      by_cases h7 : lev = 7
      · rw [if_pos h7] at h ⊢
        cases hr : r (.lv 8) d (p :: l) with
        | no a e => rw [hr] at h; cases h
        | ok n1 l2 => rw [hr] at h; rw [H _ _ _ _ _ hr]; exact H _ _ _ _ _ h
      rw [if_neg h7] at h ⊢
      by_cases h8 : lev = 8
      · rw [if_pos h8] at h ⊢
        cases hr : r (.lv 9) d (p :: l) with
        | no a e => rw [hr] at h; cases h
        | ok n1 l2 => rw [hr] at h; rw [H _ _ _ _ _ hr]; exact H _ _ _ _ _ h
      rw [if_neg h8] at h ⊢
      by_cases h9 : lev = 9
      · rw [if_pos h9] at h ⊢
        by_cases p1 : p.1 = 1
        · rw [if_pos p1] at h ⊢; exact h
        rw [if_neg p1] at h ⊢
        by_cases p2 : p.1 = 2
        · rw [if_pos p2] at h ⊢; exact h
        rw [if_neg p2] at h ⊢
        by_cases p3 : p.1 = 3
        · rw [if_pos p3] at h ⊢; exact h
        rw [if_neg p3] at h ⊢
        by_cases p4 : isT p [(4, trueB), (4, falseB)] = true
        · rw [if_pos p4] at h ⊢; exact h
        rw [if_neg p4] at h ⊢
        by_cases p5 : isT p [(5, b1 40)] = true
        · rw [if_pos p5] at h ⊢
          by_cases hd : d = 20
          · rw [if_pos hd] at h; cases h
          · rw [if_neg hd] at h ⊢
            cases hr : r (.lv 0) (d + 1) l with
            | no a e => rw [hr] at h; cases h
            | ok n1 l2 => rw [hr] at h; rw [H _ _ _ _ _ hr]; exact h
        rw [if_neg p5] at h ⊢
        by_cases p6 : free p = true
        · rw [if_pos p6] at h ⊢
          cases l with
          | nil => cases h
          | cons q l1 =>
            dsimp only at h ⊢
            by_cases q1 : q.1 = 3 ∧ typB p.2.1 = true
            · rw [if_pos q1] at h ⊢; exact h
            rw [if_neg q1] at h ⊢
            by_cases q2 : isT q [(5, b1 40)] = true
            · rw [if_pos q2] at h ⊢
              by_cases hd : d = 20
              · rw [if_pos hd] at h; cases h
              rw [if_neg hd] at h ⊢
              cases l1 with
              | nil => cases h
              | cons u l2 =>
                dsimp only at h ⊢
                by_cases hu : isT u [(5, b1 41)] = true
                · rw [if_pos hu] at h ⊢; exact h
                rw [if_neg hu] at h ⊢
                cases hr : r (.ks []) (d + 1) (u :: l2) with
                | no a e => rw [hr] at h; cases h
                | ok n1 l3 => rw [hr] at h; rw [H _ _ _ _ _ hr]; exact h
            · rw [if_neg q2] at h; cases h
        · rw [if_neg p6] at h; cases h
      rw [if_neg h9] at h ⊢
      cases hr : r (.lv (lev + 1)) d (p :: l) with
      | no a e => rw [hr] at h; cases h
      | ok n1 l2 => rw [hr] at h; rw [H _ _ _ _ _ hr]; exact H _ _ _ _ _ h
    | lp lev m =>
      unfold pst at h ⊢; dsimp only at h ⊢
      by_cases hp : isT p (sgs lev) = true
      · rw [if_pos hp] at h ⊢
        cases hr : r (.lv (lev + 1)) d l with
        | no a e => rw [hr] at h; cases h
        | ok n1 l2 => rw [hr] at h; rw [H _ _ _ _ _ hr]; exact H _ _ _ _ _ h
      · rw [if_neg hp] at h ⊢; exact h
    | zs m =>
      unfold pst at h ⊢; dsimp only at h ⊢
      by_cases hp : isT p [(4, atB)] = true
      · rw [if_pos hp] at h ⊢
        cases l with
        | nil => cases h
        | cons t l1 =>
          dsimp only at h ⊢
          by_cases ht : isT t [(4, timeB)] = true
          · rw [if_pos ht] at h ⊢
            cases l1 with
            | nil => cases h
            | cons z l2 =>
              dsimp only at h ⊢
              by_cases hz : isT z [(4, zoneB)] = true
              · rw [if_pos hz] at h ⊢
                cases hr : r (.lv 8) d l2 with
                | no a e => rw [hr] at h; cases h
                | ok n1 l3 => rw [hr] at h; rw [H _ _ _ _ _ hr]; exact H _ _ _ _ _ h
              · rw [if_neg hz] at h; cases h
          · rw [if_neg ht] at h; cases h
      · rw [if_neg hp] at h ⊢; exact h
    | cs m =>
      unfold pst at h ⊢; dsimp only at h ⊢
      by_cases hp : isT p [(5, b2 58 58)] = true
      · rw [if_pos hp] at h ⊢
        cases l with
        | nil => cases h
        | cons t l1 =>
          dsimp only at h ⊢
          by_cases ht : free t = true
          · rw [if_pos ht] at h ⊢; exact H _ _ _ _ _ h
          · rw [if_neg ht] at h; cases h
      · rw [if_neg hp] at h ⊢; exact h
    | ks acc =>
      unfold pst at h ⊢; dsimp only at h ⊢
      cases hr : r (.lv 0) d (p :: l) with
      | no a e => rw [hr] at h; cases h
      | ok n1 l2 =>
        rw [hr] at h; rw [H _ _ _ _ _ hr]
        cases l2 with
        | nil => cases h
        | cons q l2 =>
          dsimp only at h ⊢
          by_cases q1 : isT q [(5, b1 44)] = true
          · rw [if_pos q1] at h ⊢; exact H _ _ _ _ _ h
          · rw [if_neg q1] at h ⊢; exact h
theorem par_step {f : Nat} : ∀ {g : Tg} {d : Nat} {L : List Tk} {n : Nd} {l1 : List Tk}, par f g d L = .ok n l1 → par (f + 1) g d L = .ok n l1 := by
  induction f with
  | zero => intro g d L n l1 h; cases h
  | succ f ih =>
    intro g d L n l1 h
    exact pst_mono (fun g d l n l1 => ih) g d L n l1 h
theorem par_mono {f F : Nat} (hf : f ≤ F) {g : Tg} {d : Nat} {L : List Tk} {n : Nd} {l1 : List Tk} (h : par f g d L = .ok n l1) : par F g d L = .ok n l1 := by
  induction hf with
  | refl => exact h
  | step _ ih => exact par_step ih

/-! ### up from a line of the grammar to the one above -/
/-- the token that is no sign of a line. -/
def Quiet (lev : Nat) (q : Tk) : Prop := isT q (sgs lev) = false ∧ isT q [(4, atB)] = false ∧ (lev = 8 → isT q [(5, b2 58 58)] = false)
theorem quiet_end {q : Tk} (h : q.1 = 0) (lev : Nat) : Quiet lev q :=
  ⟨isT_end h _ (sgs_kind lev), isT_end h _ (by simp), fun _ => isT_end h _ (by simp)⟩
theorem up_ok {f lev d : Nat} {p q : Tk} {l l1 : List Tk} {n : Nd} (hlev : lev ≤ 8) (hp1 : isT p [(4, notB)] = false) (hp2 : isT p [(5, b1 45)] = false) (hq : Quiet lev q) (h : par (f + 1) (.lv (lev + 1)) d (p :: l) = .ok n (q :: l1)) : par (f + 2) (.lv lev) d (p :: l) = .ok n (q :: l1) := by
  rw [show f + 2 = (f + 1) + 1 from rfl, par_succ]; unfold pst; dsimp only
  by_cases h2 : lev = 2
  · subst h2; rw [if_pos rfl, hp1, if_neg (by simp)]; exact h
  rw [if_neg h2]
  by_cases h6 : lev = 6
  · subst h6; rw [if_pos rfl, hp2, if_neg (by simp)]; exact h
  rw [if_neg h6]
  by_cases h3 : lev = 3
  · subst h3
    rw [if_pos rfl, h]
    dsimp only
    unfold cmpK
    dsimp only
    rw [hq.1, if_neg (by simp)]
  rw [if_neg h3]
  by_cases h7 : lev = 7
  · subst h7
    rw [if_pos rfl, h]
    dsimp only
    rw [par_succ]; unfold pst; dsimp only
    rw [hq.2.1, if_neg (by simp)]
  rw [if_neg h7]
  by_cases h8 : lev = 8
  · subst h8
    rw [if_pos rfl, h]
    dsimp only
    rw [par_succ]; unfold pst; dsimp only
    rw [hq.2.2 rfl, if_neg (by simp)]
  rw [if_neg h8, if_neg (by omega), h]
  dsimp only
  rw [par_succ]; unfold pst; dsimp only
  rw [hq.1, if_neg (by simp)]
theorem up_no {f lev d : Nat} {p : Tk} {l : List Tk} {a e : Int} (hlev : lev ≤ 8) (hp1 : isT p [(4, notB)] = false) (hp2 : isT p [(5, b1 45)] = false) (h : par f (.lv (lev + 1)) d (p :: l) = .no a e) : par (f + 1) (.lv lev) d (p :: l) = .no a e := by
  rw [par_succ]; unfold pst; dsimp only
  by_cases h2 : lev = 2
  · subst h2; rw [if_pos rfl, hp1, if_neg (by simp)]; exact h
  rw [if_neg h2]
  by_cases h6 : lev = 6
  · subst h6; rw [if_pos rfl, hp2, if_neg (by simp)]; exact h
  rw [if_neg h6]
  by_cases h3 : lev = 3
  · subst h3; rw [if_pos rfl, h]
  rw [if_neg h3]
  by_cases h7 : lev = 7
  · subst h7; rw [if_pos rfl, h]
  rw [if_neg h7]
  by_cases h8 : lev = 8
  · subst h8; rw [if_pos rfl, h]
  rw [if_neg h8, if_neg (by omega), h]
/-- from line k up to line lev. -/
theorem ups_ok {f d : Nat} {p q : Tk} {l l1 : List Tk} {n : Nd} (hp1 : isT p [(4, notB)] = false) (hp2 : isT p [(5, b1 45)] = false) : ∀ (k lev : Nat), lev + k ≤ 9 → (∀ i, lev ≤ i → i < lev + k → Quiet i q) → par (f + 1) (.lv (lev + k)) d (p :: l) = .ok n (q :: l1) → par (f + 1 + k) (.lv lev) d (p :: l) = .ok n (q :: l1)
  | 0, lev, hk, hq, h => h
  | k + 1, lev, hk, hq, h => by
    have := ups_ok hp1 hp2 k (lev + 1) (by omega) (fun i h1 h2 => hq i (by omega) (by omega)) (by rw [show lev + 1 + k = lev + (k + 1) by omega]; exact h)
    rw [show f + 1 + k = (f + k) + 1 by omega] at this
    have q := up_ok (by omega) hp1 hp2 (hq lev (by omega) (by omega)) this
    rw [show f + 1 + (k + 1) = f + k + 2 by omega]; exact q
theorem ups_no {f d : Nat} {p : Tk} {l : List Tk} {a e : Int} (hp1 : isT p [(4, notB)] = false) (hp2 : isT p [(5, b1 45)] = false) : ∀ (k lev : Nat), lev + k ≤ 9 → par f (.lv (lev + k)) d (p :: l) = .no a e → par (f + k) (.lv lev) d (p :: l) = .no a e
  | 0, lev, hk, h => h
  | k + 1, lev, hk, h => by
    have := ups_no hp1 hp2 k (lev + 1) (by omega) (by rw [show lev + 1 + k = lev + (k + 1) by omega]; exact h)
    exact up_no (by omega) hp1 hp2 this

/-! ### brackets -/
/-- the bracket that opens. -/
def opT (a : Int) : Tk := (5, ⟨#[40]⟩, a)
theorem op_not (a : Int) : isT (opT a) [(4, notB)] = false := by unfold isT opT; simp
theorem op_neg (a : Int) : isT (opT a) [(5, b1 45)] = false := by unfold isT opT; simp; decide
theorem RL_map {c : Tk} {R : List Tk} (k : Nat) {e : Tk} (he : e.1 = 0) : ∀ (A : List Tk), (∀ t ∈ A, t.1 ≠ 0) → RL c R (A ++ [e]) (A.map (shK k) ++ c :: R)
  | [], h => .last e he
  | p :: A, h => .cons p (shK k p) _ _ (h p (by simp)) ⟨rfl, rfl⟩ (RL_map k he A (fun t ht => h t (by simp [ht])))
theorem EndL.init : ∀ {A : List Tk} {e : Tk}, EndL (A ++ [e]) → ∀ t ∈ A, t.1 ≠ 0
  | [], e, h, t, ht => by simp at ht
  | [p], e, h, t, ht => by simp at ht; subst ht; exact h.1
  | p :: q :: A, e, h, t, ht => by
    rcases List.mem_cons.1 ht with rfl | ht
    · exact h.1
    · exact EndL.init (A := q :: A) (e := e) h.2 t ht
/-- a text's tokens, where it is an expression. -/
theorem parse_toks {s : ByteArray} {n : Nd} (hs : s.size ≤ 2048) (h : parseB s = .inr n) : ∃ A e, toksB s = .inr (A ++ [(0, ⟨#[]⟩, (s.size : Int))]) ∧ (∀ t ∈ A, t.1 ≠ 0) ∧ e.1 = 0 ∧ par (10 * (A.length + 1) + 10) (.lv 0) 0 (A ++ [(0, ⟨#[]⟩, (s.size : Int))]) = .ok n [e] := by
  unfold parseB at h
  cases ht : toksB s with
  | inl x => rw [ht] at h; exact absurd h (by simp)
  | inr T =>
    rw [ht] at h
    dsimp only at h
    obtain ⟨P, hp, hf⟩ := toksB_get ht
    obtain ⟨A, _, e0, _⟩ := toks_left s (⟨#[]⟩ : ByteArray) (M := []) trivial P.length (texts s P).length (texts s P) [] T 0 (Od_cov s P 0 _ (splitB_cov hp)) (by rw [texts_length]; omega) (by simp) hf
    subst e0
    have hE := (toksB_end ht hs).1
    cases hr : par (10 * (A ++ [((0, ⟨#[]⟩, (s.size : Int)) : Tk)]).length + 10) (.lv 0) 0 (A ++ [((0, ⟨#[]⟩, (s.size : Int)) : Tk)]) with
    | no a e => rw [hr] at h; simp [endT] at h
    | ok m l1 =>
      rw [hr] at h
      have hl := par_less (by simp [okTg]) hE (by simp [need]) hr
      cases l1 with
      | nil => exact hl.1.elim
      | cons q l1 =>
        rw [endT] at h
        by_cases hq : isT q [(0, ⟨#[]⟩)] = true
        · rw [if_pos hq] at h
          simp only [Sum.inr.injEq] at h; subst h
          have hq0 : q.1 = 0 := by
            obtain ⟨x, hx, hd⟩ := List.any_eq_true.1 hq
            simp at hx; subst hx
            exact (of_decide_eq_true hd).1
          cases l1 with
          | nil => exact ⟨A, q, rfl, EndL.init hE, hq0, by simpa using hr⟩
          | cons u l2 => exact absurd hq0 hl.1.1
        · rw [if_neg hq] at h; exact absurd h (by simp)
theorem toks_empty : toksB ⟨#[]⟩ = .inr [(0, ⟨#[]⟩, 0)] := by decide +kernel
end Go.Proofs.YtcmefhnfdcngfaaDoor
