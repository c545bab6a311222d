/- Plain mathematics: with enough fuel the grammar gives a node, whose places are those of its tokens, and fewer tokens, or an error at a token's place. -/
import Derived.Test.YtaoocecipacnhaaDoorExMq
namespace Go.Proofs.YtaoocecipacnhaaDoor
set_option linter.unusedVariables false

theorem suf_mem {α : Type} {l l1 : List α} (h : ∃ pre, l = pre ++ l1) {x : α} (hx : x ∈ l1) : x ∈ l := by
  obtain ⟨pre, rfl⟩ := h; exact List.mem_append_right _ hx
theorem suf_trans {α : Type} {l l1 l2 : List α} (h : ∃ pre, l = pre ++ l1) (k : ∃ pre, l1 = pre ++ l2) : ∃ pre, l = pre ++ l2 := by
  obtain ⟨a, rfl⟩ := h; obtain ⟨b, rfl⟩ := k; exact ⟨a ++ b, by simp⟩
theorem suf_cons {α : Type} (x : α) (l : List α) : ∃ pre, x :: l = pre ++ l := ⟨[x], rfl⟩
theorem suf_self {α : Type} (l : List α) : ∃ pre, l = pre ++ l := ⟨[], rfl⟩

/-- what is asked of tokens. -/
def TkOk (S E : Int → Prop) (l : List Tk) : Prop := EndL l ∧ (∀ p ∈ l, p.1 ≠ 0 → S p.2.2) ∧ ∀ p ∈ l, E p.2.2
theorem TkOk.suf {S E : Int → Prop} {l l1 : List Tk} (h : TkOk S E l) (k : ∃ pre, l = pre ++ l1) (he : EndL l1) : TkOk S E l1 :=
  ⟨he, fun p hp => h.2.1 p (suf_mem k hp), fun p hp => h.2.2 p (suf_mem k hp)⟩
theorem TkOk.tail {S E : Int → Prop} {p : Tk} {l : List Tk} (h : TkOk S E (p :: l)) (hp : p.1 ≠ 0) : TkOk S E l := h.suf (suf_cons _ _) (h.1.tail hp)
theorem TkOk.s {S E : Int → Prop} {p : Tk} {l : List Tk} (h : TkOk S E (p :: l)) (hp : p.1 ≠ 0) : S p.2.2 := h.2.1 p List.mem_cons_self hp
theorem TkOk.e {S E : Int → Prop} {p : Tk} {l : List Tk} (h : TkOk S E (p :: l)) : E p.2.2 := h.2.2 p List.mem_cons_self

theorem PlN.leaf {S : Int → Prop} {k : Int} {t : ByteArray} {a : Int} (h : S a) : PlN S (.mk k t [] a) := .mk _ _ _ _ h (fun n hn => by cases hn)
theorem PlN.one {S : Int → Prop} {k : Int} {t : ByteArray} {a : Int} {n : Nd} (h : S a) (hn : PlN S n) : PlN S (.mk k t [n] a) := .mk _ _ _ _ h (fun m hm => by simp at hm; subst hm; exact hn)
theorem PlN.two {S : Int → Prop} {k : Int} {t : ByteArray} {a : Int} {n m : Nd} (h : S a) (hn : PlN S n) (hm : PlN S m) : PlN S (.mk k t [n, m] a) := .mk _ _ _ _ h (fun x hx => by simp at hx; rcases hx with rfl | rfl <;> assumption)
theorem PlN.kids {S : Int → Prop} {k : Int} {t : ByteArray} {ks : List Nd} {a : Int} (h : S a) (hk : ∀ m ∈ ks, PlN S m) : PlN S (.mk k t ks a) := .mk _ _ _ _ h hk

theorem GoodR.no {S E : Int → Prop} {g g' : Tg} {l l' : List Tk} {a e : Int} (h : GoodR S E g l (.no a e)) : GoodR S E g' l' (.no a e) := h

theorem par_good (S E : Int → Prop) : ∀ (f : Nat) (g : Tg) (d : Nat) (l : List Tk), okTg g → TkOk S E l → PlT S g → need g l ≤ f → GoodR S E g l (par f g d l)
  | 0, g, d, l, hg, hl, hp, hf => by
    exfalso
    obtain ⟨p, l', rfl⟩ := hl.1.cons
    cases g <;> simp only [need, okTg, List.length_cons] at hf hg <;> omega
  | f + 1, g, d, [], hg, hl, hp, hf => hl.1.elim
  | f + 1, .lv lev, d, p :: l, hg, hl, hp, hf => by
    have ih := par_good S E f
    simp only [need, List.length_cons] at hf
    simp only [okTg] at hg
    rw [par_succ]; unfold pst; dsimp only
    by_cases h2 : lev = 2
    · rw [if_pos h2]
      by_cases hi : isT p [(4, notB)] = true
      · rw [if_pos hi]
        have hk := isT_kind hi (by simp)
        by_cases hd : d = 20
        · rw [if_pos hd]; exact ⟨.inr rfl, hl.e⟩
        · rw [if_neg hd]
          have q := ih (.lv 2) (d + 1) l (by simp [okTg]) (hl.tail hk) trivial (by simp only [need]; omega)
          cases hr : par f (.lv 2) (d + 1) l with
          | no a e => rw [hr] at q; exact q
          | ok n l1 =>
            rw [hr] at q
            exact ⟨q.1, by have := q.2.1; simp only [most, List.length_cons] at this ⊢; omega, suf_trans (suf_cons _ _) q.2.2.1, PlN.one (hl.s hk) q.2.2.2⟩
      · rw [if_neg hi]
        have q := ih (.lv 3) d (p :: l) (by simp [okTg]) hl trivial (by simp only [need, List.length_cons]; omega)
        cases hr : par f (.lv 3) d (p :: l) with
        | no a e => rw [hr] at q; exact q
        | ok n l1 => rw [hr] at q; exact q
    rw [if_neg h2]
    by_cases h6 : lev = 6
    · rw [if_pos h6]
      by_cases hi : isT p [(5, b1 45)] = true
      · rw [if_pos hi]
        have hk := isT_kind hi (by simp)
        by_cases hd : d = 20
        · rw [if_pos hd]; exact ⟨.inr rfl, hl.e⟩
        · rw [if_neg hd]
          have q := ih (.lv 6) (d + 1) l (by simp [okTg]) (hl.tail hk) trivial (by simp only [need]; omega)
          cases hr : par f (.lv 6) (d + 1) l with
          | no a e => rw [hr] at q; exact q
          | ok n l1 =>
            rw [hr] at q
            exact ⟨q.1, by have := q.2.1; simp only [most, List.length_cons] at this ⊢; omega, suf_trans (suf_cons _ _) q.2.2.1, PlN.one (hl.s hk) q.2.2.2⟩
      · rw [if_neg hi]
        have q := ih (.lv 7) d (p :: l) (by simp [okTg]) hl trivial (by simp only [need, List.length_cons]; omega)
        cases hr : par f (.lv 7) d (p :: l) with
        | no a e => rw [hr] at q; exact q
        | ok n l1 => rw [hr] at q; exact q
    rw [if_neg h6]
    by_cases h3 : lev = 3
    · rw [if_pos h3]
      have q := ih (.lv 4) d (p :: l) (by simp [okTg]) hl trivial (by simp only [need, List.length_cons]; omega)
      cases hr : par f (.lv 4) d (p :: l) with
      | no a e => rw [hr] at q; exact q
      | ok n l1 =>
        rw [hr] at q
        have hl1 := hl.suf q.2.2.1 q.1
        have hm := q.2.1
        simp only [most, List.length_cons] at hm
        obtain ⟨x, l2, rfl⟩ := q.1.cons
        dsimp only [cmpK]
        by_cases hi : isT x (sgs 3) = true
        · rw [if_pos hi]
          have hk := isT_kind hi (sgs_kind 3)
          simp only [List.length_cons] at hm
          have q2 := ih (.lv 4) d l2 (by simp [okTg]) (hl1.tail hk) trivial (by simp only [need]; omega)
          cases hr2 : par f (.lv 4) d l2 with
          | no a e => rw [hr2] at q2; exact q2
          | ok m l3 =>
            rw [hr2] at q2
            have := q2.2.1
            simp only [most] at this
            exact ⟨q2.1, by simp only [most, List.length_cons]; omega, suf_trans (suf_trans q.2.2.1 (suf_cons _ _)) q2.2.2.1, PlN.two (hl1.s hk) q.2.2.2 q2.2.2.2⟩
        · rw [if_neg hi]; exact q
    rw [if_neg h3]
    by_cases h7 : lev = 7
    · rw [if_pos h7]
      have q := ih (.lv 8) d (p :: l) (by simp [okTg]) hl trivial (by simp only [need, List.length_cons]; omega)
      cases hr : par f (.lv 8) d (p :: l) with
      | no a e => rw [hr] at q; exact q
      | ok n l1 =>
        rw [hr] at q
        have hm := q.2.1
        simp only [most, List.length_cons] at hm
        have q2 := ih (.zs n) d l1 trivial (hl.suf q.2.2.1 q.1) q.2.2.2 (by simp only [need]; omega)
        dsimp only
        cases hr2 : par f (.zs n) d l1 with
        | no a e => rw [hr2] at q2; exact q2
        | ok m l3 =>
          rw [hr2] at q2
          have := q2.2.1
          simp only [most] at this
          exact ⟨q2.1, by simp only [most, List.length_cons]; omega, suf_trans q.2.2.1 q2.2.2.1, q2.2.2.2⟩
    rw [if_neg h7]
    by_cases h8 : lev = 8
    · rw [if_pos h8]
      have q := ih (.lv 9) d (p :: l) (by simp [okTg]) hl trivial (by simp only [need, List.length_cons]; omega)
      cases hr : par f (.lv 9) d (p :: l) with
      | no a e => rw [hr] at q; exact q
      | ok n l1 =>
        rw [hr] at q
        have hm := q.2.1
        simp only [most, List.length_cons] at hm
        have q2 := ih (.cs n) d l1 trivial (hl.suf q.2.2.1 q.1) q.2.2.2 (by simp only [need]; omega)
        dsimp only
        cases hr2 : par f (.cs n) d l1 with
        | no a e => rw [hr2] at q2; exact q2
        | ok m l3 =>
          rw [hr2] at q2
          have := q2.2.1
          simp only [most] at this
          exact ⟨q2.1, by simp only [most, List.length_cons]; omega, suf_trans q.2.2.1 q2.2.2.1, q2.2.2.2⟩
    rw [if_neg h8]
    by_cases h9 : lev = 9
    · rw [if_pos h9]
      have leaf : ∀ (k : Int), p.1 ≠ 0 → GoodR S E (.lv lev) (p :: l) (.ok (.mk k p.2.1 [] p.2.2) l) := fun k hk =>
        ⟨hl.1.tail hk, by simp [most], suf_cons _ _, PlN.leaf (hl.s hk)⟩
      by_cases c1 : p.1 = 1
      · rw [if_pos c1]; exact leaf 1 (by omega)
      rw [if_neg c1]
      by_cases c2 : p.1 = 2
      · rw [if_pos c2]; exact leaf 2 (by omega)
      rw [if_neg c2]
      by_cases c3 : p.1 = 3
      · rw [if_pos c3]; exact leaf 3 (by omega)
      rw [if_neg c3]
      by_cases c4 : isT p [(4, trueB), (4, falseB)] = true
      · rw [if_pos c4]; exact leaf 4 (isT_kind c4 (by simp))
      rw [if_neg c4]
      by_cases c5 : isT p [(5, b1 40)] = true
      · rw [if_pos c5]
        have hk := isT_kind c5 (by simp)
        by_cases hd : d = 20
        · rw [if_pos hd]; exact ⟨.inr rfl, hl.e⟩
        rw [if_neg hd]
        have q := ih (.lv 0) (d + 1) l (by simp [okTg]) (hl.tail hk) trivial (by simp only [need]; omega)
        cases hr : par f (.lv 0) (d + 1) l with
        | no a e => rw [hr] at q; exact q
        | ok n l1 =>
          rw [hr] at q
          have hl1 := (hl.tail hk).suf q.2.2.1 q.1
          have hm := q.2.1
          simp only [most] at hm
          obtain ⟨x, l2, rfl⟩ := q.1.cons
          dsimp only
          by_cases hi : isT x [(5, b1 41)] = true
          · rw [if_pos hi]
            have hk2 := isT_kind hi (by simp)
            simp only [List.length_cons] at hm
            exact ⟨hl1.1.tail hk2, by simp only [most, List.length_cons]; omega, suf_trans (suf_trans (suf_cons _ _) q.2.2.1) (suf_cons _ _), q.2.2.2⟩
          · rw [if_neg hi]; exact ⟨.inl rfl, hl1.e⟩
      rw [if_neg c5]
      by_cases c6 : free p = true
      · rw [if_pos c6]
        have hk := free_kind c6
        have hl1 := hl.tail hk
        obtain ⟨q, l1, rfl⟩ := hl1.1.cons
        simp only [List.length_cons] at hf
        dsimp only
        by_cases c7 : q.1 = 3 ∧ typB p.2.1 = true
        · rw [if_pos c7]
          have hq : q.1 ≠ 0 := by omega
          exact ⟨hl1.1.tail hq, by simp only [most, List.length_cons]; omega, suf_trans (suf_cons _ _) (suf_cons _ _), PlN.one (hl.s hk) (PlN.leaf (hl1.s hq))⟩
        rw [if_neg c7]
        by_cases c8 : isT q [(5, b1 40)] = true
        · rw [if_pos c8]
          have hq := isT_kind c8 (by simp)
          by_cases hd : d = 20
          · rw [if_pos hd]; exact ⟨.inr rfl, hl.e⟩
          rw [if_neg hd]
          have hl2 := hl1.tail hq
          obtain ⟨r, l2, rfl⟩ := hl2.1.cons
          simp only [List.length_cons] at hf
          dsimp only
          by_cases c9 : isT r [(5, b1 41)] = true
          · rw [if_pos c9]
            have hr := isT_kind c9 (by simp)
            exact ⟨hl2.1.tail hr, by simp only [most, List.length_cons]; omega, suf_trans (suf_trans (suf_cons _ _) (suf_cons _ _)) (suf_cons _ _), PlN.leaf (hl.s hk)⟩
          rw [if_neg c9]
          have q2 := ih (.ks []) (d + 1) (r :: l2) trivial hl2 (fun n hn => by cases hn) (by simp only [need, List.length_cons]; omega)
          cases hr2 : par f (.ks []) (d + 1) (r :: l2) with
          | no a e => rw [hr2] at q2; exact q2
          | ok n l3 =>
            rw [hr2] at q2
            have := q2.2.1
            simp only [most, List.length_cons] at this
            exact ⟨q2.1, by simp only [most, List.length_cons]; omega, suf_trans (suf_trans (suf_cons _ _) (suf_cons _ _)) q2.2.2.1, PlN.kids (hl.s hk) q2.2.2.2⟩
        · rw [if_neg c8]; exact ⟨.inl rfl, hl1.e⟩
      · rw [if_neg c6]; exact ⟨.inl rfl, hl.e⟩
    rw [if_neg h9]
    have q := ih (.lv (lev + 1)) d (p :: l) (by simp [okTg]; omega) hl trivial (by simp only [need, List.length_cons]; omega)
    cases hr : par f (.lv (lev + 1)) d (p :: l) with
    | no a e => rw [hr] at q; exact q
    | ok n l1 =>
      rw [hr] at q
      have hm := q.2.1
      simp only [most, List.length_cons] at hm
      have q2 := ih (.lp lev n) d l1 (by simp only [okTg]; omega) (hl.suf q.2.2.1 q.1) q.2.2.2 (by simp only [need]; omega)
      dsimp only
      cases hr2 : par f (.lp lev n) d l1 with
      | no a e => rw [hr2] at q2; exact q2
      | ok m l3 =>
        rw [hr2] at q2
        have := q2.2.1
        simp only [most] at this
        exact ⟨q2.1, by simp only [most, List.length_cons]; omega, suf_trans q.2.2.1 q2.2.2.1, q2.2.2.2⟩
  | f + 1, .lp lev n, d, q :: l, hg, hl, hp, hf => by
    have ih := par_good S E f
    simp only [need, List.length_cons] at hf
    simp only [okTg] at hg
    rw [par_succ]; unfold pst; dsimp only
    by_cases hi : isT q (sgs lev) = true
    · rw [if_pos hi]
      have hk := isT_kind hi (sgs_kind lev)
      have q1 := ih (.lv (lev + 1)) d l (by simp only [okTg]; omega) (hl.tail hk) trivial (by simp only [need]; omega)
      cases hr : par f (.lv (lev + 1)) d l with
      | no a e => rw [hr] at q1; exact q1
      | ok m l1 =>
        rw [hr] at q1
        have hm := q1.2.1
        simp only [most] at hm
        have q2 := ih (.lp lev (.mk 8 q.2.1 [n, m] q.2.2)) d l1 hg ((hl.tail hk).suf q1.2.2.1 q1.1) (PlN.two (hl.s hk) hp q1.2.2.2) (by simp only [need]; omega)
        dsimp only
        cases hr2 : par f (.lp lev (.mk 8 q.2.1 [n, m] q.2.2)) d l1 with
        | no a e => rw [hr2] at q2; exact q2
        | ok x l3 =>
          rw [hr2] at q2
          have := q2.2.1
          simp only [most] at this
          exact ⟨q2.1, by simp only [most, List.length_cons]; omega, suf_trans (suf_trans (suf_cons _ _) q1.2.2.1) q2.2.2.1, q2.2.2.2⟩
    · rw [if_neg hi]; exact ⟨hl.1, Nat.le_refl _, suf_self _, hp⟩
  | f + 1, .zs n, d, q :: l, hg, hl, hp, hf => by
    have ih := par_good S E f
    simp only [need, List.length_cons] at hf
    rw [par_succ]; unfold pst; dsimp only
    by_cases hi : isT q [(4, atB)] = true
    · rw [if_pos hi]
      have hk := isT_kind hi (by simp)
      have hl1 := hl.tail hk
      obtain ⟨t, l1, rfl⟩ := hl1.1.cons
      dsimp only
      by_cases h1 : isT t [(4, timeB)] = true
      · rw [if_pos h1]
        have hk1 := isT_kind h1 (by simp)
        have hl2 := hl1.tail hk1
        obtain ⟨z, l2, rfl⟩ := hl2.1.cons
        dsimp only
        by_cases h2 : isT z [(4, zoneB)] = true
        · rw [if_pos h2]
          have hk2 := isT_kind h2 (by simp)
          simp only [List.length_cons] at hf
          have q1 := ih (.lv 8) d l2 (by simp [okTg]) (hl2.tail hk2) trivial (by simp only [need]; omega)
          cases hr : par f (.lv 8) d l2 with
          | no a e => rw [hr] at q1; exact q1
          | ok m l3 =>
            rw [hr] at q1
            have hm := q1.2.1
            simp only [most] at hm
            have q2 := ih (.zs (.mk 8 atzB [n, m] q.2.2)) d l3 trivial ((hl2.tail hk2).suf q1.2.2.1 q1.1) (PlN.two (hl.s hk) hp q1.2.2.2) (by simp only [need]; omega)
            dsimp only
            cases hr2 : par f (.zs (.mk 8 atzB [n, m] q.2.2)) d l3 with
            | no a e => rw [hr2] at q2; exact q2
            | ok x l4 =>
              rw [hr2] at q2
              have := q2.2.1
              simp only [most] at this
              exact ⟨q2.1, by simp only [most, List.length_cons]; omega, suf_trans (suf_trans (suf_trans (suf_trans (suf_cons _ _) (suf_cons _ _)) (suf_cons _ _)) q1.2.2.1) q2.2.2.1, q2.2.2.2⟩
        · rw [if_neg h2]; exact ⟨.inl rfl, hl2.e⟩
      · rw [if_neg h1]; exact ⟨.inl rfl, hl1.e⟩
    · rw [if_neg hi]; exact ⟨hl.1, Nat.le_refl _, suf_self _, hp⟩
  | f + 1, .cs n, d, q :: l, hg, hl, hp, hf => by
    have ih := par_good S E f
    simp only [need, List.length_cons] at hf
    rw [par_succ]; unfold pst; dsimp only
    by_cases hi : isT q [(5, b2 58 58)] = true
    · rw [if_pos hi]
      have hk := isT_kind hi (by simp)
      have hl1 := hl.tail hk
      obtain ⟨t, l1, rfl⟩ := hl1.1.cons
      dsimp only
      by_cases h1 : free t = true
      · rw [if_pos h1]
        have hk1 := free_kind h1
        simp only [List.length_cons] at hf
        have q2 := ih (.cs (.mk 10 t.2.1 [n] q.2.2)) d l1 trivial (hl1.tail hk1) (PlN.one (hl.s hk) hp) (by simp only [need]; omega)
        cases hr2 : par f (.cs (.mk 10 t.2.1 [n] q.2.2)) d l1 with
        | no a e => rw [hr2] at q2; exact q2
        | ok x l4 =>
          rw [hr2] at q2
          have := q2.2.1
          simp only [most] at this
          exact ⟨q2.1, by simp only [most, List.length_cons]; omega, suf_trans (suf_trans (suf_cons _ _) (suf_cons _ _)) q2.2.2.1, q2.2.2.2⟩
      · rw [if_neg h1]; exact ⟨.inl rfl, hl1.e⟩
    · rw [if_neg hi]; exact ⟨hl.1, Nat.le_refl _, suf_self _, hp⟩
  | f + 1, .ks acc, d, p :: l, hg, hl, hp, hf => by
    have ih := par_good S E f
    simp only [need, List.length_cons] at hf
    rw [par_succ]; unfold pst; dsimp only
    have q := ih (.lv 0) d (p :: l) (by simp [okTg]) hl trivial (by simp only [need, List.length_cons]; omega)
    cases hr : par f (.lv 0) d (p :: l) with
    | no a e => rw [hr] at q; exact q
    | ok n l1 =>
      rw [hr] at q
      have hl1 := hl.suf q.2.2.1 q.1
      have hm := q.2.1
      simp only [most, List.length_cons] at hm
      obtain ⟨x, l2, rfl⟩ := q.1.cons
      simp only [List.length_cons] at hm
      dsimp only
      have hall : ∀ m ∈ acc ++ [n], PlN S m := fun m hm => by
        rcases List.mem_append.1 hm with h | h
        · exact hp m h
        · simp at h; subst h; exact q.2.2.2
      by_cases hi : isT x [(5, b1 44)] = true
      · rw [if_pos hi]
        have hk := isT_kind hi (by simp)
        have q2 := ih (.ks (acc ++ [n])) d l2 trivial (hl1.tail hk) hall (by simp only [need]; omega)
        cases hr2 : par f (.ks (acc ++ [n])) d l2 with
        | no a e => rw [hr2] at q2; exact q2
        | ok y l4 =>
          rw [hr2] at q2
          have := q2.2.1
          simp only [most] at this
          exact ⟨q2.1, by simp only [most, List.length_cons]; omega, suf_trans (suf_trans q.2.2.1 (suf_cons _ _)) q2.2.2.1, q2.2.2.2⟩
      · rw [if_neg hi]
        by_cases hj : isT x [(5, b1 41)] = true
        · rw [if_pos hj]
          have hk := isT_kind hj (by simp)
          exact ⟨hl1.1.tail hk, by simp only [most, List.length_cons]; omega, suf_trans q.2.2.1 (suf_cons _ _), hall⟩
        · rw [if_neg hj]; exact ⟨.inl rfl, hl1.e⟩

end Go.Proofs.YtaoocecipacnhaaDoor
