import Derived.Test.YtcmefhnfdcngfaaDoorK28
/- The grammar looks no further than it reads: what stands behind a token that is left may be another. -/
namespace Go.Proofs.YtcmefhnfdcngfaaDoor
open Go.RowKit
set_option linter.unusedVariables false

/-- no more is left than there was. -/
def LD (r : Tg → Nat → List Tk → PR) : Prop := ∀ g d L n l, r g d L = .ok n l → l.length ≤ L.length
/-- two lists of tokens, the same but for what is behind. -/
def Rl (X Y L L' : List Tk) : Prop := ∃ P, L = P ++ X ∧ L' = P ++ Y
def TlR (X Y : List Tk) (r : Tg → Nat → List Tk → PR) : Prop := ∀ g d L L' n l, Rl X Y L L' → r g d L = .ok n l → X.length ≤ l.length → ∃ l', Rl X Y l l' ∧ r g d L' = .ok n l'
theorem Rl.tail {X Y : List Tk} {q : Tk} {l : List Tk} {L' : List Tk} (h : Rl X Y (q :: l) L') (hl : X.length ≤ l.length) : ∃ l', L' = q :: l' ∧ Rl X Y l l' := by
  obtain ⟨P, h1, h2⟩ := h
  cases P with
  | nil => rw [List.nil_append] at h1; rw [← h1, List.length_cons] at hl; omega
  | cons p P =>
    rw [List.cons_append, List.cons.injEq] at h1
    obtain ⟨rfl, h1⟩ := h1
    exact ⟨P ++ Y, by rw [h2, List.cons_append], P, h1, rfl⟩
theorem Rl.head {c q : Tk} {X Y : List Tk} {l : List Tk} {L' : List Tk} (h : Rl (c :: X) (c :: Y) (q :: l) L') : ∃ l', L' = q :: l' := by
  obtain ⟨P, h1, h2⟩ := h
  cases P with
  | nil => rw [List.nil_append, List.cons.injEq] at h1; exact ⟨Y, by rw [h2, List.nil_append, h1.1]⟩
  | cons p P =>
    rw [List.cons_append, List.cons.injEq] at h1
    exact ⟨P ++ c :: Y, by rw [h2, List.cons_append, h1.1]⟩

theorem cmp_ld {r : Tg → Nat → List Tk → PR} (H : LD r) {d : Nat} {n m : Nd} {L l : List Tk} (h : cmpK r d n L = .ok m l) : l.length ≤ L.length := by
  cases L with
  | nil => cases h
  | cons q L =>
    unfold cmpK at h
    dsimp only at h
    split at h
    · split at h
      · rename_i hr; have := H _ _ _ _ _ hr; cases h; simp; omega
      · cases h
    · cases h; simp
theorem pst_ld {r : Tg → Nat → List Tk → PR} (H : LD r) : LD (pst r) := by
  intro g d L n l h
  cases L with
  | nil => cases g <;> cases h
  | cons p L =>
    cases g with
    | lv lev =>
      unfold pst at h
      dsimp only at h
      by_cases h2 : lev = 2
      · rw [if_pos h2] at h
        by_cases hp : isT p [(4, notB)] = true
        · rw [if_pos hp] at h
          by_cases hd : d = 20
          · rw [if_pos hd] at h; cases h
          · rw [if_neg hd] at h
            cases hr : r (.lv 2) (d + 1) L with
            | no a e => rw [hr] at h; cases h
            | ok n1 l2 => rw [hr] at h; have := H _ _ _ _ _ hr; cases h; simp; omega
        · rw [if_neg hp] at h; exact H _ _ _ _ _ h
      rw [if_neg h2] at h
      by_cases h6 : lev = 6
      · rw [if_pos h6] at h
        by_cases hp : isT p [(5, b1 45)] = true
        · rw [if_pos hp] at h
          by_cases hd : d = 20
          · rw [if_pos hd] at h; cases h
          · rw [if_neg hd] at h
            cases hr : r (.lv 6) (d + 1) L with
            | no a e => rw [hr] at h; cases h
            | ok n1 l2 => rw [hr] at h; have := H _ _ _ _ _ hr; cases h; simp; omega
        · rw [if_neg hp] at h; exact H _ _ _ _ _ h
      rw [if_neg h6] at h
      by_cases h3 : lev = 3
      · rw [if_pos h3] at h
        cases hr : r (.lv 4) d (p :: L) with
        | no a e => rw [hr] at h; cases h
        | ok n1 l2 => rw [hr] at h; have := H _ _ _ _ _ hr; have := cmp_ld H h; omega
      rw [if_neg h3] at h
      by_cases h7 : lev = 7
      · rw [if_pos h7] at h
        cases hr : r (.lv 8) d (p :: L) with
        | no a e => rw [hr] at h; cases h
        | ok n1 l2 => rw [hr] at h; have := H _ _ _ _ _ hr; have := H _ _ _ _ _ h; omega
      rw [if_neg h7] at h
      by_cases h8 : lev = 8
      · rw [if_pos h8] at h
        cases hr : r (.lv 9) d (p :: L) with
        | no a e => rw [hr] at h; cases h
        | ok n1 l2 => rw [hr] at h; have := H _ _ _ _ _ hr; have := H _ _ _ _ _ h; omega
      rw [if_neg h8] at h
      by_cases h9 : lev = 9
      · rw [if_pos h9] at h
        by_cases k1 : p.1 = 1
        · rw [if_pos k1] at h; cases h; simp
        rw [if_neg k1] at h
        by_cases k2 : p.1 = 2
        · rw [if_pos k2] at h; cases h; simp
        rw [if_neg k2] at h
        by_cases k3 : p.1 = 3
        · rw [if_pos k3] at h; cases h; simp
        rw [if_neg k3] at h
        by_cases k4 : isT p [(4, trueB), (4, falseB)] = true
        · rw [if_pos k4] at h; cases h; simp
        rw [if_neg k4] at h
        by_cases k5 : isT p [(5, b1 40)] = true
        · rw [if_pos k5] at h
          by_cases hd : d = 20
          · rw [if_pos hd] at h; cases h
          rw [if_neg hd] at h
          cases hr : r (.lv 0) (d + 1) L with
          | no a e => rw [hr] at h; cases h
          | ok n1 l2 =>
            rw [hr] at h
            have := H _ _ _ _ _ hr
            cases l2 with
            | nil => cases h
            | cons q l2 =>
              dsimp only at h
              by_cases hq : isT q [(5, b1 41)] = true
              · rw [if_pos hq] at h; cases h; simp at this ⊢; omega
              · rw [if_neg hq] at h; cases h
        rw [if_neg k5] at h
        by_cases k6 : free p = true
        · rw [if_pos k6] at h
          cases L with
          | nil => cases h
          | cons q L =>
            dsimp only at h
            by_cases hq : q.1 = 3 ∧ typB p.2.1 = true
            · rw [if_pos hq] at h; cases h; simp; omega
            rw [if_neg hq] at h
            by_cases hq2 : isT q [(5, b1 40)] = true
            · rw [if_pos hq2] at h
              by_cases hd : d = 20
              · rw [if_pos hd] at h; cases h
              rw [if_neg hd] at h
              cases L with
              | nil => cases h
              | cons u L =>
                dsimp only at h
                by_cases hu : isT u [(5, b1 41)] = true
                · rw [if_pos hu] at h; cases h; simp; omega
                rw [if_neg hu] at h
                cases hr : r (.ks []) (d + 1) (u :: L) with
                | no a e => rw [hr] at h; cases h
                | ok n1 l2 => rw [hr] at h; have := H _ _ _ _ _ hr; cases h; simp at this ⊢; omega
            · rw [if_neg hq2] at h; cases h
        · rw [if_neg k6] at h; cases h
      rw [if_neg h9] at h
      cases hr : r (.lv (lev + 1)) d (p :: L) with
      | no a e => rw [hr] at h; cases h
      | ok n1 l2 => rw [hr] at h; have := H _ _ _ _ _ hr; have := H _ _ _ _ _ h; omega
    | lp lev n0 =>
      unfold pst at h
      dsimp only at h
      split at h
      · split at h
        · rename_i hr; have := H _ _ _ _ _ hr; have := H _ _ _ _ _ h; simp; omega
        · cases h
      · cases h; simp
    | zs n0 =>
      unfold pst at h
      dsimp only at h
      split at h
      · split at h
        · cases h
        split at h
        · split at h
          · cases h
          split at h
          · split at h
            · rename_i hr; have := H _ _ _ _ _ hr; have := H _ _ _ _ _ h; simp; omega
            · cases h
          · cases h
        · cases h
      · cases h; simp
    | cs n0 =>
      unfold pst at h
      dsimp only at h
      split at h
      · split at h
        · cases h
        split at h
        · have := H _ _ _ _ _ h; simp; omega
        · cases h
      · cases h; simp
    | ks acc =>
      unfold pst at h
      dsimp only at h
      split at h
      · cases h
      · cases h
      · rename_i hr
        have := H _ _ _ _ _ hr
        split at h
        · have := H _ _ _ _ _ h; simp at *; omega
        split at h
        · cases h; simp at *; omega
        · cases h
theorem par_ld : ∀ f, LD (par f)
  | 0 => fun g d L n l h => by cases h
  | f + 1 => by
    intro g d L n l h
    rw [par_succ] at h
    exact pst_ld (par_ld f) g d L n l h

theorem tl_tail {X Y : List Tk} {q : Tk} {l m : List Tk} (h : Rl X Y (q :: l) (q :: m)) (hl : X.length ≤ l.length) : Rl X Y l m := by
  obtain ⟨l', e, h'⟩ := h.tail hl
  cases e
  exact h'
theorem cmp_tl {c : Tk} {X Y : List Tk} {r : Tg → Nat → List Tk → PR} (H : LD r) (T : TlR (c :: X) (c :: Y) r) {d : Nat} {n m : Nd} {L L' l : List Tk} (hR : Rl (c :: X) (c :: Y) L L') (h : cmpK r d n L = .ok m l) (hl : (c :: X).length ≤ l.length) : ∃ l', Rl (c :: X) (c :: Y) l l' ∧ cmpK r d n L' = .ok m l' := by
  cases L with
  | nil => cases h
  | cons q L =>
    obtain ⟨M, rfl⟩ := hR.head
    unfold cmpK at h ⊢
    dsimp only at h ⊢
    by_cases hq : isT q (sgs 3) = true
    · rw [if_pos hq] at h ⊢
      cases hr : r (.lv 4) d L with
      | no a e => rw [hr] at h; cases h
      | ok n1 l2 =>
        rw [hr] at h; have := H _ _ _ _ _ hr; cases h
        obtain ⟨l', q1, q2⟩ := T _ _ _ _ _ _ (tl_tail hR (by omega)) hr hl
        rw [q2]; exact ⟨l', q1, rfl⟩
    · rw [if_neg hq] at h ⊢; cases h; exact ⟨_, hR, rfl⟩
theorem pst_tl {c : Tk} {X Y : List Tk} {r : Tg → Nat → List Tk → PR} (H : LD r) (T : TlR (c :: X) (c :: Y) r) : TlR (c :: X) (c :: Y) (pst r) := by
  intro g d L L' n l hR h hl
  cases L with
  | nil => cases g <;> cases h
  | cons p L =>
    obtain ⟨M, rfl⟩ := hR.head
    cases g with
    | lv lev =>
      unfold pst at h ⊢
      dsimp only at h ⊢
      by_cases h2 : lev = 2
      · rw [if_pos h2] at h ⊢
        by_cases hp : isT p [(4, notB)] = true
        · rw [if_pos hp] at h ⊢
          by_cases hd : d = 20
          · rw [if_pos hd] at h; cases h
          · rw [if_neg hd] at h ⊢
            cases hr : r (.lv 2) (d + 1) L with
            | no a e => rw [hr] at h; cases h
            | ok n1 l2 =>
              rw [hr] at h; have := H _ _ _ _ _ hr; cases h
              obtain ⟨l', q1, q2⟩ := T _ _ _ _ _ _ (tl_tail hR (by omega)) hr hl
              rw [q2]; exact ⟨l', q1, rfl⟩
        · rw [if_neg hp] at h ⊢; exact T _ _ _ _ _ _ hR h hl
      rw [if_neg h2] at h ⊢
      by_cases h6 : lev = 6
      · rw [if_pos h6] at h ⊢
        by_cases hp : isT p [(5, b1 45)] = true
        · rw [if_pos hp] at h ⊢
          by_cases hd : d = 20
          · rw [if_pos hd] at h; cases h
          · rw [if_neg hd] at h ⊢
            cases hr : r (.lv 6) (d + 1) L with
            | no a e => rw [hr] at h; cases h
            | ok n1 l2 =>
              rw [hr] at h; have := H _ _ _ _ _ hr; cases h
              obtain ⟨l', q1, q2⟩ := T _ _ _ _ _ _ (tl_tail hR (by omega)) hr hl
              rw [q2]; exact ⟨l', q1, rfl⟩
        · rw [if_neg hp] at h ⊢; exact T _ _ _ _ _ _ hR h hl
      rw [if_neg h6] at h ⊢
      by_cases h3 : lev = 3
      · rw [if_pos h3] at h ⊢
        cases hr : r (.lv 4) d (p :: L) with
        | no a e => rw [hr] at h; cases h
        | ok n1 l2 =>
          rw [hr] at h; have := cmp_ld H h
          obtain ⟨l2', q1, q2⟩ := T _ _ _ _ _ _ hR hr (by omega)
          obtain ⟨l', q3, q4⟩ := cmp_tl H T q1 h hl
          rw [q2]; exact ⟨l', q3, q4⟩
      rw [if_neg h3] at h ⊢
      by_cases h7 : lev = 7
      · rw [if_pos h7] at h ⊢
        cases hr : r (.lv 8) d (p :: L) with
        | no a e => rw [hr] at h; cases h
        | ok n1 l2 =>
          rw [hr] at h; have := H _ _ _ _ _ h
          obtain ⟨l2', q1, q2⟩ := T _ _ _ _ _ _ hR hr (by omega)
          obtain ⟨l', q3, q4⟩ := T _ _ _ _ _ _ q1 h hl
          rw [q2]; exact ⟨l', q3, q4⟩
      rw [if_neg h7] at h ⊢
      by_cases h8 : lev = 8
      · rw [if_pos h8] at h ⊢
        cases hr : r (.lv 9) d (p :: L) with
        | no a e => rw [hr] at h; cases h
        | ok n1 l2 =>
          rw [hr] at h; have := H _ _ _ _ _ h
          obtain ⟨l2', q1, q2⟩ := T _ _ _ _ _ _ hR hr (by omega)
          obtain ⟨l', q3, q4⟩ := T _ _ _ _ _ _ q1 h hl
          rw [q2]; exact ⟨l', q3, q4⟩
      rw [if_neg h8] at h ⊢
      by_cases h9 : lev = 9
      · rw [if_pos h9] at h ⊢
        by_cases k1 : p.1 = 1
        · rw [if_pos k1] at h ⊢; cases h; exact ⟨M, tl_tail hR hl, rfl⟩
        rw [if_neg k1] at h ⊢
        by_cases k2 : p.1 = 2
        · rw [if_pos k2] at h ⊢; cases h; exact ⟨M, tl_tail hR hl, rfl⟩
        rw [if_neg k2] at h ⊢
        by_cases k3 : p.1 = 3
        · rw [if_pos k3] at h ⊢; cases h; exact ⟨M, tl_tail hR hl, rfl⟩
        rw [if_neg k3] at h ⊢
        by_cases k4 : isT p [(4, trueB), (4, falseB)] = true
        · rw [if_pos k4] at h ⊢; cases h; exact ⟨M, tl_tail hR hl, rfl⟩
        rw [if_neg k4] at h ⊢
        by_cases k5 : isT p [(5, b1 40)] = true
        · rw [if_pos k5] at h ⊢
          by_cases hd : d = 20
          · rw [if_pos hd] at h; cases h
          rw [if_neg hd] at h ⊢
          cases hr : r (.lv 0) (d + 1) L with
          | no a e => rw [hr] at h; cases h
          | ok n1 l2 =>
            rw [hr] at h
            have := H _ _ _ _ _ hr
            cases l2 with
            | nil => cases h
            | cons q l2 =>
              dsimp only at h
              by_cases hq : isT q [(5, b1 41)] = true
              · rw [if_pos hq] at h; cases h
                rw [List.length_cons] at this
                obtain ⟨m', q1, q2⟩ := T _ _ _ _ _ _ (tl_tail hR (by omega)) hr (by simp only [List.length_cons] at *; omega)
                obtain ⟨l2', rfl⟩ := q1.head
                rw [q2]; dsimp only; rw [if_pos hq]
                exact ⟨l2', tl_tail q1 hl, rfl⟩
              · rw [if_neg hq] at h; cases h
        rw [if_neg k5] at h ⊢
        by_cases k6 : free p = true
        · rw [if_pos k6] at h ⊢
          cases L with
          | nil => cases h
          | cons q L =>
            dsimp only at h
            by_cases hq : q.1 = 3 ∧ typB p.2.1 = true
            · rw [if_pos hq] at h; cases h
              have hR1 := tl_tail hR (by simp only [List.length_cons] at *; omega)
              obtain ⟨M2, rfl⟩ := hR1.head
              dsimp only
              rw [if_pos hq]
              exact ⟨M2, tl_tail hR1 hl, rfl⟩
            rw [if_neg hq] at h
            by_cases hq2 : isT q [(5, b1 40)] = true
            · rw [if_pos hq2] at h
              by_cases hd : d = 20
              · rw [if_pos hd] at h; cases h
              rw [if_neg hd] at h
              cases L with
              | nil => cases h
              | cons u L =>
                dsimp only at h
                by_cases hu : isT u [(5, b1 41)] = true
                · rw [if_pos hu] at h; cases h
                  have hR1 := tl_tail hR (by simp only [List.length_cons] at *; omega)
                  obtain ⟨M2, rfl⟩ := hR1.head
                  have hR2 := tl_tail hR1 (by simp only [List.length_cons] at *; omega)
                  obtain ⟨M3, rfl⟩ := hR2.head
                  dsimp only
                  rw [if_neg hq, if_pos hq2, if_neg hd, if_pos hu]
                  exact ⟨M3, tl_tail hR2 hl, rfl⟩
                rw [if_neg hu] at h
                cases hr : r (.ks []) (d + 1) (u :: L) with
                | no a e => rw [hr] at h; cases h
                | ok n1 l2 =>
                  rw [hr] at h; have h0 := H _ _ _ _ _ hr; cases h
                  have hR1 := tl_tail hR (by simp only [List.length_cons] at *; omega)
                  obtain ⟨M2, rfl⟩ := hR1.head
                  have hR2 := tl_tail hR1 (by omega)
                  obtain ⟨M3, rfl⟩ := hR2.head
                  obtain ⟨l', q1, q2⟩ := T _ _ _ _ _ _ hR2 hr hl
                  dsimp only
                  rw [if_neg hq, if_pos hq2, if_neg hd, if_neg hu, q2]
                  exact ⟨l', q1, rfl⟩
            · rw [if_neg hq2] at h; cases h
        · rw [if_neg k6] at h; cases h
      rw [if_neg h9] at h ⊢
      cases hr : r (.lv (lev + 1)) d (p :: L) with
      | no a e => rw [hr] at h; cases h
      | ok n1 l2 =>
        rw [hr] at h; have := H _ _ _ _ _ h
        obtain ⟨l2', q1, q2⟩ := T _ _ _ _ _ _ hR hr (by omega)
        obtain ⟨l', q3, q4⟩ := T _ _ _ _ _ _ q1 h hl
        rw [q2]; exact ⟨l', q3, q4⟩
    | lp lev n0 =>
      unfold pst at h ⊢
      dsimp only at h ⊢
      by_cases hq : isT p (sgs lev) = true
      · rw [if_pos hq] at h ⊢
        cases hr : r (.lv (lev + 1)) d L with
        | no a e => rw [hr] at h; cases h
        | ok n1 l2 =>
          rw [hr] at h; have := H _ _ _ _ _ hr; have := H _ _ _ _ _ h
          obtain ⟨l2', q1, q2⟩ := T _ _ _ _ _ _ (tl_tail hR (by omega)) hr (by omega)
          obtain ⟨l', q3, q4⟩ := T _ _ _ _ _ _ q1 h hl
          rw [q2]; exact ⟨l', q3, q4⟩
      · rw [if_neg hq] at h ⊢; cases h; exact ⟨_, hR, rfl⟩
    | zs n0 =>
      unfold pst at h ⊢
      dsimp only at h ⊢
      by_cases hq : isT p [(4, atB)] = true
      · rw [if_pos hq] at h ⊢
        cases L with
        | nil => cases h
        | cons t L =>
          dsimp only at h
          by_cases ht : isT t [(4, timeB)] = true
          · rw [if_pos ht] at h
            cases L with
            | nil => cases h
            | cons z L =>
              dsimp only at h
              by_cases hz : isT z [(4, zoneB)] = true
              · rw [if_pos hz] at h
                cases hr : r (.lv 8) d L with
                | no a e => rw [hr] at h; cases h
                | ok n1 l2 =>
                  rw [hr] at h; have := H _ _ _ _ _ hr; have := H _ _ _ _ _ h
                  have hR1 := tl_tail hR (by simp only [List.length_cons] at *; omega)
                  obtain ⟨M2, rfl⟩ := hR1.head
                  have hR2 := tl_tail hR1 (by simp only [List.length_cons] at *; omega)
                  obtain ⟨M3, rfl⟩ := hR2.head
                  have hR3 := tl_tail hR2 (by omega)
                  obtain ⟨l2', q1, q2⟩ := T _ _ _ _ _ _ hR3 hr (by omega)
                  obtain ⟨l', q3, q4⟩ := T _ _ _ _ _ _ q1 h hl
                  dsimp only
                  rw [if_pos ht, if_pos hz, q2]; exact ⟨l', q3, q4⟩
              · rw [if_neg hz] at h; cases h
          · rw [if_neg ht] at h; cases h
      · rw [if_neg hq] at h ⊢; cases h; exact ⟨_, hR, rfl⟩
    | cs n0 =>
      unfold pst at h ⊢
      dsimp only at h ⊢
      by_cases hq : isT p [(5, b2 58 58)] = true
      · rw [if_pos hq] at h ⊢
        cases L with
        | nil => cases h
        | cons t L =>
          dsimp only at h
          by_cases ht : free t = true
          · rw [if_pos ht] at h
            have := H _ _ _ _ _ h
            have hR1 := tl_tail hR (by simp only [List.length_cons] at *; omega)
            obtain ⟨M2, rfl⟩ := hR1.head
            have hR2 := tl_tail hR1 (by omega)
            obtain ⟨l', q3, q4⟩ := T _ _ _ _ _ _ hR2 h hl
            dsimp only
            rw [if_pos ht]; exact ⟨l', q3, q4⟩
          · rw [if_neg ht] at h; cases h
      · rw [if_neg hq] at h ⊢; cases h; exact ⟨_, hR, rfl⟩
    | ks acc =>
      unfold pst at h ⊢
      dsimp only at h ⊢
      cases hr : r (.lv 0) d (p :: L) with
      | no a e => rw [hr] at h; cases h
      | ok n1 l2 =>
        rw [hr] at h
        cases l2 with
        | nil => cases h
        | cons q l2 =>
          dsimp only at h
          by_cases hq : isT q [(5, b1 44)] = true
          · rw [if_pos hq] at h
            have := H _ _ _ _ _ h
            obtain ⟨m', q1, q2⟩ := T _ _ _ _ _ _ hR hr (by simp only [List.length_cons] at *; omega)
            obtain ⟨l2', rfl⟩ := q1.head
            obtain ⟨l', q3, q4⟩ := T _ _ _ _ _ _ (tl_tail q1 (by omega)) h hl
            rw [q2]; dsimp only; rw [if_pos hq]; exact ⟨l', q3, q4⟩
          rw [if_neg hq] at h
          by_cases hq2 : isT q [(5, b1 41)] = true
          · rw [if_pos hq2] at h; cases h
            obtain ⟨m', q1, q2⟩ := T _ _ _ _ _ _ hR hr (by simp only [List.length_cons] at *; omega)
            obtain ⟨l2', rfl⟩ := q1.head
            rw [q2]; dsimp only; rw [if_neg hq, if_pos hq2]; exact ⟨l2', tl_tail q1 hl, rfl⟩
          · rw [if_neg hq2] at h; cases h
theorem par_tl {c : Tk} {X Y : List Tk} : ∀ f, TlR (c :: X) (c :: Y) (par f)
  | 0 => fun g d L L' n l _ h => by cases h
  | f + 1 => by
    intro g d L L' n l hR h hl
    rw [par_succ] at h ⊢
    exact pst_tl (par_ld f) (par_tl f) g d L L' n l hR h hl

end Go.Proofs.YtcmefhnfdcngfaaDoor
