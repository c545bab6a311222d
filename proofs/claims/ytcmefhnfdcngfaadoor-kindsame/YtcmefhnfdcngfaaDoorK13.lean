import Derived.Test.YtcmefhnfdcngfaaDoorK2
/- Plain mathematics: what the grammar makes of tokens it makes of the same tokens elsewhere with a bracket behind them, but for places, unless that is too deep. -/
namespace Go.Proofs.YtcmefhnfdcngfaaDoor
set_option linter.unusedVariables false

/-- the same but for its place. -/
def AlT (p q : Tk) : Prop := p.1 = q.1 ∧ p.2.1 = q.2.1
/-- two lists, one by one. -/
inductive F2 {α β : Type} (R : α → β → Prop) : List α → List β → Prop where
  | nil : F2 R [] []
  | cons {a : α} {b : β} {l : List α} {m : List β} (h : R a b) (hl : F2 R l m) : F2 R (a :: l) (b :: m)
theorem F2.snoc {α β : Type} {R : α → β → Prop} {l : List α} {m : List β} (h : F2 R l m) {x : α} {y : β} (hx : R x y) : F2 R (l ++ [x]) (m ++ [y]) := by
  induction h with
  | nil => exact .cons hx .nil
  | cons h1 h2 i => exact .cons h1 i
/-- the same but for places. -/
inductive AlN : Nd → Nd → Prop where
  | mk (k : Int) (t : ByteArray) (ks ls : List Nd) (a b : Int) (h : F2 AlN ks ls) : AlN (.mk k t ks a) (.mk k t ls b)
theorem AlN.leaf {k : Int} {t : ByteArray} {a b : Int} : AlN (.mk k t [] a) (.mk k t [] b) := .mk _ _ _ _ _ _ .nil
theorem AlN.one {k : Int} {t : ByteArray} {a b : Int} {n m : Nd} (h : AlN n m) : AlN (.mk k t [n] a) (.mk k t [m] b) := .mk _ _ _ _ _ _ (.cons h .nil)
theorem AlN.two {k : Int} {t : ByteArray} {a b : Int} {n m x y : Nd} (h : AlN n m) (h2 : AlN x y) : AlN (.mk k t [n, x] a) (.mk k t [m, y] b) := .mk _ _ _ _ _ _ (.cons h (.cons h2 .nil))
theorem AlN.ks {n m : Nd} (h : AlN n m) : F2 AlN n.ks m.ks := by cases h; assumption

/-- tokens up to the end, and the same ones, with a bracket and others in the end's place. -/
inductive RL (c : Tk) (R : List Tk) : List Tk → List Tk → Prop where
  | last (e : Tk) (h : e.1 = 0) : RL c R [e] (c :: R)
  | cons (p q : Tk) (l m : List Tk) (hp : p.1 ≠ 0) (h : AlT p q) (hl : RL c R l m) : RL c R (p :: l) (q :: m)
theorem RL.endL {c : Tk} {R l m : List Tk} (h : RL c R l m) : EndL l := by
  induction h with
  | last e h => exact h
  | cons p q l m hp h hl ih =>
    cases l with
    | nil => cases hl
    | cons x l => exact ⟨hp, ih⟩
inductive RG : Tg → Tg → Prop where
  | lv (l : Nat) : RG (.lv l) (.lv l)
  | lp (l : Nat) (n m : Nd) (h : AlN n m) : RG (.lp l n) (.lp l m)
  | zs (n m : Nd) (h : AlN n m) : RG (.zs n) (.zs m)
  | cs (n m : Nd) (h : AlN n m) : RG (.cs n) (.cs m)
  | ks (a b : List Nd) (h : F2 AlN a b) : RG (.ks a) (.ks b)
theorem isT_al {p q : Tk} (h : AlT p q) (l : List (Int × ByteArray)) : isT q l = isT p l := by unfold isT; rw [h.1, h.2]
theorem free_al {p q : Tk} (h : AlT p q) : free q = free p := by unfold free; rw [h.1, h.2]
theorem isT_end {e : Tk} (h : e.1 = 0) (l : List (Int × ByteArray)) (hl : ∀ x ∈ l, x.1 ≠ 0) : isT e l = false := by
  cases q : isT e l with
  | false => rfl
  | true => exact absurd h (isT_kind q hl)
def brT (c : Tk) : Prop := c.1 = 5 ∧ c.2.1 = b1 41
theorem isT_br {c : Tk} (h : brT c) (l : List (Int × ByteArray)) (hl : ∀ x ∈ l, x ≠ (5, b1 41)) : isT c l = false := by
  cases q : isT c l with
  | false => rfl
  | true =>
    exfalso
    obtain ⟨x, hx, hd⟩ := List.any_eq_true.1 q
    have := of_decide_eq_true hd
    exact hl x hx (Prod.ext (this.1.symm.trans h.1) (this.2.symm.trans h.2))
theorem sgs_br (lev : Nat) : ∀ x ∈ sgs lev, x ≠ (5, b1 41) := by
  intro x hx
  unfold sgs at hx
  split at hx <;> simp at hx <;> (first | (rcases hx with rfl | rfl | rfl | rfl | rfl | rfl <;> decide) | (rcases hx with rfl | rfl | rfl <;> decide) | (rcases hx with rfl | rfl <;> decide) | (subst hx; decide))

/-- what comes of the same tokens. -/
def InR (c : Tk) (R : List Tk) (n : Nd) (l : List Tk) : PR → Prop
  | .ok n' l' => AlN n n' ∧ RL c R l l'
  | .no _ e => e = 31
theorem InR.case {c : Tk} {R : List Tk} {n : Nd} {l : List Tk} {r : PR} (h : InR c R n l r) : (∃ n' l', r = .ok n' l' ∧ AlN n n' ∧ RL c R l l') ∨ ∃ a, r = .no a 31 := by
  cases r with
  | ok n' l' => exact .inl ⟨n', l', rfl, h⟩
  | no a e => exact .inr ⟨a, by rw [show e = 31 from h]⟩

theorem tkOk_of {l : List Tk} (h : EndL l) : TkOk (fun _ => True) (fun _ => True) l := ⟨h, fun _ _ _ => trivial, fun _ _ => trivial⟩
theorem plT_any (g : Tg) : PlT (fun _ => True) g := by
  have A : ∀ n : Nd, PlN (fun _ => True) n := by
    intro n
    induction n using Nd.rec (motive_2 := fun l => ∀ n ∈ l, PlN (fun _ => True) n) with
    | mk k t ks a ih => exact .mk _ _ _ _ trivial ih
    | nil => contradiction
    | cons x l hx hl => rename_i n h; rcases List.mem_cons.1 h with rfl | h; exact hx; exact hl _ h
  cases g with
  | lv l => trivial
  | lp l n => exact A n
  | zs n => exact A n
  | cs n => exact A n
  | ks l => exact fun n _ => A n
/-- fewer tokens are left. -/
theorem par_less {f : Nat} {g : Tg} {d : Nat} {l : List Tk} {n : Nd} {l1 : List Tk} (hg : okTg g) (hl : EndL l) (hf : need g l ≤ f) (h : par f g d l = .ok n l1) : EndL l1 ∧ l1.length ≤ most g l := by
  have q := par_good (fun _ => True) (fun _ => True) f g d l hg (tkOk_of hl) (plT_any g) hf
  rw [h] at q
  exact ⟨q.1, q.2.1⟩
theorem RL.cases' {c : Tk} {R l m : List Tk} (h : RL c R l m) : (∃ e, e.1 = 0 ∧ l = [e] ∧ m = c :: R) ∨ ∃ p q l' m', l = p :: l' ∧ m = q :: m' ∧ p.1 ≠ 0 ∧ AlT p q ∧ RL c R l' m' := by
  cases h with
  | last e h => exact .inl ⟨e, h, rfl, rfl⟩
  | cons p q l m hp h hl => exact .inr ⟨p, q, l, m, rfl, rfl, hp, h, hl⟩

theorem par_in (c : Tk) (R : List Tk) (hc : brT c) : ∀ (f : Nat) (g g' : Tg) (d d' : Nat) (L L' : List Tk) (n : Nd) (L1 : List Tk), okTg g → RG g g' → RL c R L L' → need g L ≤ f → par f g d L = .ok n L1 → InR c R n L1 (par f g' d' L')
  | 0, g, g', d, d', L, L', n, L1, hg, hr, hl, hf, h => by cases h
  | f + 1, g, g', d, d', L, L', n, L1, hg, hr, hl, hf, h => by
    have ih := par_in c R hc f
    have hE := hl.endL
    have hless := par_less hg hE hf h
    rcases hl.cases' with ⟨e, he, rfl, rfl⟩ | ⟨p, q, l, m, rfl, rfl, hp, hpq, hlm⟩
    · -- at the end
      cases hr with
      | lv lev => exfalso; have := hless.2; simp only [most] at this; cases L1 with | nil => exact hless.1.elim | cons x y => simp at this
      | ks a b hab => exfalso; have := hless.2; simp only [most] at this; cases L1 with | nil => exact hless.1.elim | cons x y => simp at this
      | lp lev n m hnm =>
        rw [par_succ] at h ⊢; unfold pst at h ⊢; dsimp only at h ⊢
        rw [isT_end he _ (sgs_kind lev), if_neg (by simp)] at h
        rw [isT_br hc _ (sgs_br lev), if_neg (by simp)]
        cases h; exact ⟨hnm, .last e he⟩
      | zs n m hnm =>
        rw [par_succ] at h ⊢; unfold pst at h ⊢; dsimp only at h ⊢
        rw [isT_end he _ (by simp), if_neg (by simp)] at h
        rw [isT_br hc _ (by simp), if_neg (by simp)]
        cases h; exact ⟨hnm, .last e he⟩
      | cs n m hnm =>
        rw [par_succ] at h ⊢; unfold pst at h ⊢; dsimp only at h ⊢
        rw [isT_end he _ (by simp), if_neg (by simp)] at h
        rw [isT_br hc _ (by simp; decide), if_neg (by simp)]
        cases h; exact ⟨hnm, .last e he⟩
    · -- a token
      have hlE := hlm.endL
      rw [par_succ] at h ⊢
      cases hr with
      | lv lev =>
        simp only [okTg] at hg
        simp only [need, List.length_cons] at hf
        unfold pst at h ⊢; dsimp only at h ⊢
        -- a line of which the next one is the whole
        have thru : ∀ k, lev < k → k ≤ 9 → par f (.lv k) d (p :: l) = .ok n L1 → InR c R n L1 (par f (.lv k) d' (q :: m)) := fun k h1 h2 hh =>
          ih (.lv k) (.lv k) d d' _ _ n L1 h2 (.lv k) (.cons p q l m hp hpq hlm) (by simp only [need, List.length_cons]; omega) hh
        have deeper : ∀ (k lv2 : Nat), lv2 ≤ 9 → (if d = 20 then PR.no p.2.2 31 else match par f (.lv lv2) (d + 1) l with | .ok n l1 => .ok (.mk k ByteArray.empty [n] p.2.2) l1 | .no a e => .no a e) = .ok n L1 →
            InR c R n L1 (if d' = 20 then PR.no q.2.2 31 else match par f (.lv lv2) (d' + 1) m with | .ok n l1 => .ok (.mk k ByteArray.empty [n] q.2.2) l1 | .no a e => .no a e) := by
          intro k lv2 h2 hh
          by_cases hd : d = 20
          · rw [if_pos hd] at hh; cases hh
          rw [if_neg hd] at hh
          by_cases hd' : d' = 20
          · rw [if_pos hd']; rfl
          rw [if_neg hd']
          cases hr1 : par f (.lv lv2) (d + 1) l with
          | no a e => rw [hr1] at hh; cases hh
          | ok x l1 =>
            rw [hr1] at hh; cases hh
            rcases (ih (.lv lv2) (.lv lv2) (d + 1) (d' + 1) l m x _ h2 (.lv lv2) hlm (by simp only [need]; omega) hr1).case with ⟨x', l', e1, e2, e3⟩ | ⟨a, e1⟩
            · rw [e1]; exact ⟨.one e2, e3⟩
            · rw [e1]; rfl
        by_cases h2 : lev = 2
        · rw [if_pos h2] at h ⊢
          rw [isT_al hpq]
          by_cases hi : isT p [(4, notB)] = true
          · rw [if_pos hi] at h ⊢; exact deeper 7 2 (by omega) h
          · rw [if_neg hi] at h ⊢; exact thru 3 (by omega) (by omega) h
        rw [if_neg h2] at h ⊢
        by_cases h6 : lev = 6
        · rw [if_pos h6] at h ⊢
          rw [isT_al hpq]
          by_cases hi : isT p [(5, b1 45)] = true
          · rw [if_pos hi] at h ⊢; exact deeper 6 6 (by omega) h
          · rw [if_neg hi] at h ⊢; exact thru 7 (by omega) (by omega) h
        rw [if_neg h6] at h ⊢
        -- a first part, and what follows
        have fst : ∀ (k : Nat), lev < k → k ≤ 9 → ∀ (F F' : Nd → List Tk → PR), (match par f (.lv k) d (p :: l) with | .ok n l1 => F n l1 | .no a e => .no a e) = .ok n L1 →
            (∀ x x' l1 l1', AlN x x' → RL c R l1 l1' → l1.length ≤ l.length → F x l1 = .ok n L1 → InR c R n L1 (F' x' l1')) →
            InR c R n L1 (match par f (.lv k) d' (q :: m) with | .ok n l1 => F' n l1 | .no a e => .no a e) := by
          intro k h1 h2 F F' hh hF
          cases hr1 : par f (.lv k) d (p :: l) with
          | no a e => rw [hr1] at hh; cases hh
          | ok x l1 =>
            rw [hr1] at hh
            have hn : need (.lv k) (p :: l) ≤ f := by simp only [need, List.length_cons]; omega
            have hm := (par_less (g := .lv k) h2 hE hn hr1).2
            simp only [most, List.length_cons] at hm
            rcases (ih (.lv k) (.lv k) d d' _ _ x _ h2 (.lv k) (.cons p q l m hp hpq hlm) hn hr1).case with ⟨x', l', e1, e2, e3⟩ | ⟨a, e1⟩
            · rw [e1]; exact hF x x' l1 l' e2 e3 (by omega) hh
            · rw [e1]; rfl
        by_cases h3 : lev = 3
        · rw [if_pos h3] at h ⊢
          refine fst 4 (by omega) (by omega) _ _ h ?_
          intro x x' l1 l1' hx hl1 hlen hh
          rcases hl1.cases' with ⟨e, he, rfl, rfl⟩ | ⟨p1, q1, l2, m2, rfl, rfl, hp1, hpq1, hlm1⟩
          · dsimp only [cmpK] at hh ⊢
            rw [isT_end he _ (sgs_kind 3), if_neg (by simp)] at hh
            rw [isT_br hc _ (sgs_br 3), if_neg (by simp)]
            cases hh; exact ⟨hx, .last e he⟩
          · dsimp only [cmpK] at hh ⊢
            rw [isT_al hpq1]
            by_cases hi : isT p1 (sgs 3) = true
            · rw [if_pos hi] at hh ⊢
              simp only [List.length_cons] at hlen
              cases hr1 : par f (.lv 4) d l2 with
              | no a e => rw [hr1] at hh; cases hh
              | ok y l3 =>
                rw [hr1] at hh; cases hh
                rcases (ih (.lv 4) (.lv 4) d d' l2 m2 y _ (by simp [okTg]) (.lv 4) hlm1 (by simp only [need]; omega) hr1).case with ⟨x', l', e1, e2, e3⟩ | ⟨a, e1⟩
                · rw [e1]; dsimp only; rw [← hpq1.2]; exact ⟨.two hx e2, e3⟩
                · rw [e1]; rfl
            · rw [if_neg hi] at hh ⊢
              cases hh; exact ⟨hx, .cons p1 q1 l2 m2 hp1 hpq1 hlm1⟩
        rw [if_neg h3] at h ⊢
        by_cases h7 : lev = 7
        · rw [if_pos h7] at h ⊢
          exact fst 8 (by omega) (by omega) _ _ h fun x x' l1 l1' hx hl1 hlen hh => ih (.zs x) (.zs x') d d' l1 l1' n L1 trivial (.zs x x' hx) hl1 (by simp only [need]; omega) hh
        rw [if_neg h7] at h ⊢
        by_cases h8 : lev = 8
        · rw [if_pos h8] at h ⊢
          exact fst 9 (by omega) (by omega) _ _ h fun x x' l1 l1' hx hl1 hlen hh => ih (.cs x) (.cs x') d d' l1 l1' n L1 trivial (.cs x x' hx) hl1 (by simp only [need]; omega) hh
        rw [if_neg h8] at h ⊢
        by_cases h9 : lev = 9
        · rw [if_pos h9] at h ⊢
          rw [isT_al hpq, isT_al hpq, free_al hpq, ← hpq.1, ← hpq.2]
          by_cases c1 : p.1 = 1
          · rw [if_pos c1] at h ⊢; cases h; exact ⟨.leaf, hlm⟩
          rw [if_neg c1] at h ⊢
          by_cases c2 : p.1 = 2
          · rw [if_pos c2] at h ⊢; cases h; exact ⟨.leaf, hlm⟩
          rw [if_neg c2] at h ⊢
          by_cases c3 : p.1 = 3
          · rw [if_pos c3] at h ⊢; cases h; exact ⟨.leaf, hlm⟩
          rw [if_neg c3] at h ⊢
          by_cases c4 : isT p [(4, trueB), (4, falseB)] = true
          · rw [if_pos c4] at h ⊢; cases h; exact ⟨.leaf, hlm⟩
          rw [if_neg c4] at h ⊢
          by_cases c5 : isT p [(5, b1 40)] = true
          · rw [if_pos c5] at h ⊢
            by_cases hd : d = 20
            · rw [if_pos hd] at h; cases h
            rw [if_neg hd] at h
            by_cases hd' : d' = 20
            · rw [if_pos hd']; rfl
            rw [if_neg hd']
            cases hr1 : par f (.lv 0) (d + 1) l with
            | no a e => rw [hr1] at h; cases h
            | ok x l1 =>
              rw [hr1] at h
              rcases (ih (.lv 0) (.lv 0) (d + 1) (d' + 1) l m x _ (by simp [okTg]) (.lv 0) hlm (by simp only [need]; omega) hr1).case with ⟨x', l', e1, e2, e3⟩ | ⟨a, e1⟩
              · rw [e1]
                rcases e3.cases' with ⟨e, he, rfl, rfl⟩ | ⟨p1, q1, l2, m2, rfl, rfl, hp1, hpq1, hlm1⟩
                · dsimp only at h
                  rw [isT_end he _ (by simp), if_neg (by simp)] at h; cases h
                · dsimp only at h ⊢
                  rw [isT_al hpq1]
                  by_cases hi : isT p1 [(5, b1 41)] = true
                  · rw [if_pos hi] at h ⊢; cases h; exact ⟨e2, hlm1⟩
                  · rw [if_neg hi] at h; cases h
              · rw [e1]; rfl
          rw [if_neg c5] at h ⊢
          by_cases c6 : free p = true
          · rw [if_pos c6] at h ⊢
            rcases hlm.cases' with ⟨e, he, rfl, rfl⟩ | ⟨p1, q1, l2, m2, rfl, rfl, hp1, hpq1, hlm1⟩
            · dsimp only at h
              rw [if_neg (by omega), isT_end he _ (by simp), if_neg (by simp)] at h; cases h
            · dsimp only at h ⊢
              rw [isT_al hpq1, ← hpq1.1, ← hpq1.2]
              simp only [List.length_cons] at hf
              by_cases c7 : p1.1 = 3 ∧ typB p.2.1 = true
              · rw [if_pos c7] at h ⊢; cases h; exact ⟨.one .leaf, hlm1⟩
              rw [if_neg c7] at h ⊢
              by_cases c8 : isT p1 [(5, b1 40)] = true
              · rw [if_pos c8] at h ⊢
                by_cases hd : d = 20
                · rw [if_pos hd] at h; cases h
                rw [if_neg hd] at h
                by_cases hd' : d' = 20
                · rw [if_pos hd']; rfl
                rw [if_neg hd']
                rcases hlm1.cases' with ⟨e, he, rfl, rfl⟩ | ⟨p2, q2, l3, m3, rfl, rfl, hp2, hpq2, hlm2⟩
                · exfalso
                  dsimp only at h
                  rw [isT_end he _ (by simp), if_neg (by simp)] at h
                  cases hr1 : par f (.ks []) (d + 1) [e] with
                  | no a e => rw [hr1] at h; cases h
                  | ok x l1 =>
                    have := par_less (g := .ks []) trivial (show EndL [e] from he) (by simp only [need, List.length_cons, List.length_nil] at hf ⊢; omega) hr1
                    simp only [most, List.length_cons, List.length_nil] at this
                    cases l1 with
                    | nil => exact this.1.elim
                    | cons x y => simp at this
                · dsimp only at h ⊢
                  rw [isT_al hpq2]
                  simp only [List.length_cons] at hf
                  by_cases c9 : isT p2 [(5, b1 41)] = true
                  · rw [if_pos c9] at h ⊢; cases h; exact ⟨.leaf, hlm2⟩
                  rw [if_neg c9] at h ⊢
                  cases hr1 : par f (.ks []) (d + 1) (p2 :: l3) with
                  | no a e => rw [hr1] at h; cases h
                  | ok x l1 =>
                    rw [hr1] at h; cases h
                    rcases (ih (.ks []) (.ks []) (d + 1) (d' + 1) _ _ x _ trivial (.ks [] [] .nil) (.cons p2 q2 l3 m3 hp2 hpq2 hlm2) (by simp only [need, List.length_cons]; omega) hr1).case with ⟨x', l', e1, e2, e3⟩ | ⟨a, e1⟩
                    · rw [e1]; exact ⟨.mk _ _ _ _ _ _ e2.ks, e3⟩
                    · rw [e1]; rfl
              · rw [if_neg c8] at h; cases h
          · rw [if_neg c6] at h; cases h
        rw [if_neg h9] at h ⊢
        exact fst (lev + 1) (by omega) (by omega) _ _ h fun x x' l1 l1' hx hl1 hlen hh => ih (.lp lev x) (.lp lev x') d d' l1 l1' n L1 (by simp only [okTg]; omega) (.lp lev x x' hx) hl1 (by simp only [need]; omega) hh
      | lp lev n0 m0 hnm =>
        simp only [okTg] at hg
        simp only [need, List.length_cons] at hf
        unfold pst at h ⊢; dsimp only at h ⊢
        rw [isT_al hpq]
        by_cases hi : isT p (sgs lev) = true
        · rw [if_pos hi] at h ⊢
          cases hr1 : par f (.lv (lev + 1)) d l with
          | no a e => rw [hr1] at h; cases h
          | ok x l1 =>
            rw [hr1] at h
            have hok : okTg (.lv (lev + 1)) := by simp only [okTg]; omega
            have hn : need (.lv (lev + 1)) l ≤ f := by simp only [need]; omega
            have hm := (par_less hok hlE hn hr1).2
            simp only [most] at hm
            rcases (ih (.lv (lev + 1)) (.lv (lev + 1)) d d' l m x _ hok (.lv _) hlm hn hr1).case with ⟨x', l', e1, e2, e3⟩ | ⟨a, e1⟩
            · rw [e1]; dsimp only at h ⊢; rw [← hpq.2]
              exact ih (.lp lev _) (.lp lev _) d d' l1 l' n L1 hg (.lp lev _ _ (.two hnm e2)) e3 (by simp only [need]; omega) h
            · rw [e1]; rfl
        · rw [if_neg hi] at h ⊢; cases h; exact ⟨hnm, .cons p q l m hp hpq hlm⟩
      | zs n0 m0 hnm =>
        simp only [need, List.length_cons] at hf
        unfold pst at h ⊢; dsimp only at h ⊢
        rw [isT_al hpq]
        by_cases hi : isT p [(4, atB)] = true
        · rw [if_pos hi] at h ⊢
          rcases hlm.cases' with ⟨e, he, rfl, rfl⟩ | ⟨p1, q1, l2, m2, rfl, rfl, hp1, hpq1, hlm1⟩
          · dsimp only at h; rw [isT_end he _ (by simp), if_neg (by simp)] at h; cases h
          · dsimp only at h ⊢
            rw [isT_al hpq1]
            by_cases h1 : isT p1 [(4, timeB)] = true
            · rw [if_pos h1] at h ⊢
              rcases hlm1.cases' with ⟨e, he, rfl, rfl⟩ | ⟨p2, q2, l3, m3, rfl, rfl, hp2, hpq2, hlm2⟩
              · dsimp only at h; rw [isT_end he _ (by simp), if_neg (by simp)] at h; cases h
              · dsimp only at h ⊢
                rw [isT_al hpq2]
                by_cases h2 : isT p2 [(4, zoneB)] = true
                · rw [if_pos h2] at h ⊢
                  simp only [List.length_cons] at hf
                  cases hr1 : par f (.lv 8) d l3 with
                  | no a e => rw [hr1] at h; cases h
                  | ok x l1 =>
                    rw [hr1] at h
                    have hn : need (.lv 8) l3 ≤ f := by simp only [need]; omega
                    have hm := (par_less (g := .lv 8) (by simp [okTg]) hlm2.endL hn hr1).2
                    simp only [most] at hm
                    rcases (ih (.lv 8) (.lv 8) d d' l3 m3 x _ (by simp [okTg]) (.lv _) hlm2 hn hr1).case with ⟨x', l', e1, e2, e3⟩ | ⟨a, e1⟩
                    · rw [e1]; dsimp only at h ⊢
                      exact ih (.zs _) (.zs _) d d' l1 l' n L1 trivial (.zs _ _ (.two hnm e2)) e3 (by simp only [need]; omega) h
                    · rw [e1]; rfl
                · rw [if_neg h2] at h; cases h
            · rw [if_neg h1] at h; cases h
        · rw [if_neg hi] at h ⊢; cases h; exact ⟨hnm, .cons p q l m hp hpq hlm⟩
      | cs n0 m0 hnm =>
        simp only [need, List.length_cons] at hf
        unfold pst at h ⊢; dsimp only at h ⊢
        rw [isT_al hpq]
        by_cases hi : isT p [(5, b2 58 58)] = true
        · rw [if_pos hi] at h ⊢
          rcases hlm.cases' with ⟨e, he, rfl, rfl⟩ | ⟨p1, q1, l2, m2, rfl, rfl, hp1, hpq1, hlm1⟩
          · dsimp only at h; rw [show free e = false from by unfold free; rw [he]; simp, if_neg (by simp)] at h; cases h
          · dsimp only at h ⊢
            rw [free_al hpq1]
            by_cases h1 : free p1 = true
            · rw [if_pos h1] at h ⊢
              simp only [List.length_cons] at hf
              rw [← hpq1.2]
              exact ih (.cs _) (.cs _) d d' l2 m2 n L1 trivial (.cs _ _ (.one hnm)) hlm1 (by simp only [need]; omega) h
            · rw [if_neg h1] at h; cases h
        · rw [if_neg hi] at h ⊢; cases h; exact ⟨hnm, .cons p q l m hp hpq hlm⟩
      | ks a b hab =>
        simp only [need, List.length_cons] at hf
        unfold pst at h ⊢; dsimp only at h ⊢
        have hn : need (.lv 0) (p :: l) ≤ f := by simp only [need, List.length_cons]; omega
        cases hr1 : par f (.lv 0) d (p :: l) with
        | no a e => rw [hr1] at h; cases h
        | ok x l1 =>
          rw [hr1] at h
          have hm := (par_less (g := .lv 0) (by simp [okTg]) hE hn hr1).2
          simp only [most, List.length_cons] at hm
          rcases (ih (.lv 0) (.lv 0) d d' _ _ x _ (by simp [okTg]) (.lv _) (.cons p q l m hp hpq hlm) hn hr1).case with ⟨x', l', e1, e2, e3⟩ | ⟨a, e1⟩
          · rw [e1]
            rcases e3.cases' with ⟨e, he, rfl, rfl⟩ | ⟨p1, q1, l2, m2, rfl, rfl, hp1, hpq1, hlm1⟩
            · dsimp only at h
              rw [isT_end he _ (by simp), if_neg (by simp), isT_end he _ (by simp), if_neg (by simp)] at h; cases h
            · dsimp only at h ⊢
              rw [isT_al hpq1, isT_al hpq1]
              have hab' : F2 AlN (a ++ [x]) (b ++ [x']) := hab.snoc e2
              simp only [List.length_cons] at hm
              by_cases h1 : isT p1 [(5, b1 44)] = true
              · rw [if_pos h1] at h ⊢
                exact ih (.ks _) (.ks _) d d' l2 m2 n L1 trivial (.ks _ _ hab') hlm1 (by simp only [need]; omega) h
              rw [if_neg h1] at h ⊢
              by_cases h2 : isT p1 [(5, b1 41)] = true
              · rw [if_pos h2] at h ⊢; cases h; exact ⟨.mk _ _ _ _ _ _ hab', hlm1⟩
              · rw [if_neg h2] at h; cases h
          · rw [e1]; rfl

end Go.Proofs.YtcmefhnfdcngfaaDoor
