/- Plain mathematics: all parts of a text, each at its place, and blanks, are the text. -/
import Derived.Test.YtaoocecipacnhaaDoorWdRefBq
namespace Go.Proofs.YtaoocecipacnhaaDoor
set_option linter.unusedVariables false

/-- parts in order within a text, from a place to another one, blanks between them. -/
def Cov (s : ByteArray) : Nat → List Prt → Nat → Prop
  | at_, [], to => at_ ≤ to ∧ to ≤ s.size ∧ ∀ j, at_ ≤ j → j < to → blankN (bt s j) = true
  | at_, p :: l, to => at_ ≤ p.2.1 ∧ p.2.1 < p.2.2 ∧ p.2.2 ≤ s.size ∧ (∀ j, at_ ≤ j → j < p.2.1 → blankN (bt s j) = true) ∧ Cov s p.2.2 l to
theorem Cov_snoc (s : ByteArray) (k : Int) (x e to : Nat) : ∀ (l : List Prt) (a : Nat), Cov s a (l ++ [(k, x, e)]) to ↔ Cov s a l x ∧ x < e ∧ e ≤ s.size ∧ Cov s e [] to
  | [], a => by
    simp only [List.nil_append, Cov]
    exact ⟨fun ⟨h1, h2, h3, h4, h5⟩ => ⟨⟨h1, by omega, h4⟩, h2, h3, h5⟩, fun ⟨⟨h1, _, h4⟩, h2, h3, h5⟩ => ⟨h1, h2, h3, h4, h5⟩⟩
  | p :: l, a => by
    simp only [List.cons_append, Cov]
    rw [Cov_snoc s k x e to l p.2.2]
    simp only [Cov]
    exact ⟨fun ⟨h1, h2, h3, h4, h5, h6, h7, h8⟩ => ⟨⟨h1, h2, h3, h4, h5⟩, h6, h7, h8⟩, fun ⟨⟨h1, h2, h3, h4, h5⟩, h6, h7, h8⟩ => ⟨h1, h2, h3, h4, h5, h6, h7, h8⟩⟩
theorem Cov_more (s : ByteArray) (to n : Nat) (hn : n ≤ s.size) (hl : to ≤ n) (hb : ∀ j, to ≤ j → j < n → blankN (bt s j) = true) : ∀ (l : List Prt) (a : Nat), Cov s a l to → Cov s a l n
  | [], a, ⟨h1, h2, h3⟩ => ⟨by omega, hn, fun j h4 h5 => by
      by_cases c : j < to
      · exact h3 j h4 c
      · exact hb j (by omega) h5⟩
  | p :: l, a, ⟨h1, h2, h3, h4, h5⟩ => ⟨h1, h2, h3, h4, Cov_more s to n hn hl hb l p.2.2 h5⟩
theorem Cov_length (s : ByteArray) : ∀ (l : List Prt) (a to : Nat), Cov s a l to → l.length + a ≤ to
  | [], a, to, ⟨h1, _, _⟩ => by simp; exact h1
  | p :: l, a, to, ⟨h1, h2, h3, h4, h5⟩ => by
    have := Cov_length s l _ _ h5
    simp only [List.length_cons]; omega
theorem Cov_to (s : ByteArray) : ∀ (l : List Prt) (a to : Nat), Cov s a l to → to ≤ s.size
  | [], a, to, ⟨h1, h2, _⟩ => h2
  | p :: l, a, to, ⟨h1, h2, h3, h4, h5⟩ => Cov_to s l _ _ h5
/-- what holds on the way. -/
def Lst (l : List Prt) (pos : Nat) (a : Int) : Prop := a = 0 ∨ ∃ l' k x, l = l' ++ [(k, x, pos)]

theorem blank_one (s : ByteArray) (pos : Nat) (h : pos < s.size) (hk : kindP s pos = 0) : blankN (bt s pos) = true ∧ (Utf8.decode s pos).2 = 1 := by
  obtain ⟨k1, k2⟩ := bad_kind s pos h
  cases hb : badN s pos with
  | true => rw [k1.1 hb] at hk; exact absurd hk (by decide)
  | false =>
    have q := (k2 hb).1
    rw [hk] at q
    refine ⟨(bk_blank _).2 q.symm, ?_⟩
    rcases dec_shape s pos h with ⟨c, e⟩ | ⟨c, e⟩ | ⟨c, _⟩
    · rw [e]
    · rw [e]
    · rw [bk_hi _ c] at q; exact absurd q (by decide)

theorem Cov_blank {s : ByteArray} {pos : Nat} {l : List Prt} (h : pos < s.size) (hk : kindP s pos = 0) (hC : Cov s 0 l pos) : Cov s 0 l (pos + (Utf8.decode s pos).2) := by
  obtain ⟨b1, b2⟩ := blank_one s pos h hk
  rw [b2]
  refine Cov_more s pos (pos + 1) (by omega) (by omega) (fun j h1 h2 => ?_) l 0 hC
  obtain rfl : j = pos := by omega
  exact b1
theorem Cov_new {s : ByteArray} {pos : Nat} {l : List Prt} (k : Int) (h : pos < s.size) (hC : Cov s 0 l pos) : Cov s 0 (l ++ [(k, pos, pos + (Utf8.decode s pos).2)]) (pos + (Utf8.decode s pos).2) := by
  have hw := wd_pos s pos
  have hl := wd_le s pos h
  exact (Cov_snoc s k pos _ _ l 0).2 ⟨hC, by omega, hl, Nat.le_refl _, hl, fun j h1 h2 => by omega⟩
theorem Cov_ext {s : ByteArray} {pos : Nat} {l : List Prt} {k : Int} {x : Nat} (h : pos < s.size) (hC : Cov s 0 (l ++ [(k, x, pos)]) pos) : Cov s 0 (l ++ [(k, x, pos + (Utf8.decode s pos).2)]) (pos + (Utf8.decode s pos).2) := by
  have hw := wd_pos s pos
  have hl := wd_le s pos h
  obtain ⟨h1, h2, h3, h4⟩ := (Cov_snoc s k x pos pos l 0).1 hC
  exact (Cov_snoc s k x _ _ l 0).2 ⟨h1, by omega, hl, Nat.le_refl _, hl, fun j h1 h2 => by omega⟩

theorem split_cov (s : ByteArray) : ∀ (f pos : Nat) (l : List Prt) (a : Int) (m : List Prt), s.size ≤ pos + f → Cov s 0 l pos → Lst l pos a → splitF s f pos l a = .inr m → Cov s 0 m s.size
  | 0, pos, l, a, m, hf, hC, hL, h => by
    simp only [splitF, Sum.inr.injEq] at h; subst h
    obtain rfl : pos = s.size := by have := Cov_to s _ _ _ hC; omega
    exact hC
  | f + 1, pos, l, a, m, hf, hC, hL, h => by
    by_cases hp : pos < s.size
    · have hw := wd_pos s pos
      by_cases c1 : kindP s pos = -1
      · rw [splitF_wrong hp c1] at h; exact absurd h (by simp)
      · by_cases c0 : kindP s pos = 0
        · rw [splitF_blank hp c0] at h
          exact split_cov s f _ _ _ _ (by omega) (Cov_blank hp c0 hC) (.inl rfl) h
        · by_cases cn : kindP s pos = 3 ∨ kindP s pos ≠ a
          · rw [splitF_new hp c1 c0 cn] at h
            exact split_cov s f _ _ _ _ (by omega) (Cov_new _ hp hC) (.inr ⟨_, _, _, rfl⟩) h
          · rcases hL with hL | ⟨l', k, x, rfl⟩
            · exfalso; apply cn; right; rw [hL]; exact c0
            · rw [splitF_more hp c1 c0 (fun q => cn (.inl q)) (by
                by_cases z : kindP s pos = a
                · exact z
                · exact absurd (.inr z) cn)] at h
              exact split_cov s f _ _ _ _ (by omega) (Cov_ext hp hC) (.inr ⟨_, _, _, rfl⟩) h
    · rw [splitF_end _ _ _ _ _ hp] at h
      simp only [Sum.inr.injEq] at h; subst h
      obtain rfl : pos = s.size := by have := Cov_to s _ _ _ hC; omega
      exact hC
theorem splitB_cov {s : ByteArray} {m : List Prt} (h : splitB s = .inr m) : Cov s 0 m s.size :=
  split_cov s s.size 0 [] 0 m (by omega) ⟨Nat.le_refl _, Nat.zero_le _, fun j h1 h2 => by omega⟩ (.inl rfl) h

/-! ### two texts with a blank between them -/
theorem bt_beyond (a : ByteArray) (i : Nat) (h : ¬ i < a.size) : bt a i = 0 := by
  unfold bt
  show (a.data[i]!).toNat = 0
  rw [getElem!_neg a.data i h]
  rfl
end Go.Proofs.YtaoocecipacnhaaDoor
