import Derived.Test.YtcmefhnfdcngfaaDoorK3
/- Plain mathematics: the document's way to part a text and the program's way give the same parts. -/
namespace Go.Proofs.YtcmefhnfdcngfaaDoor
set_option linter.unusedVariables false

def blankN (c : Nat) : Bool := c == 32 || c == 9 || c == 10 || c == 13
def digitN (c : Nat) : Bool := decide (48 ≤ c) && decide (c ≤ 57)
def letterN (c : Nat) : Bool := (decide (97 ≤ c) && decide (c ≤ 122)) || (decide (65 ≤ c) && decide (c ≤ 90)) || c == 95 || decide (127 < c)
/-- which part a byte is of. -/
def bk (c : Nat) : Int := if blankN c then 0 else if digitN c then 1 else if letterN c then 2 else 3
theorem bk_blank (c : Nat) : blankN c = true ↔ bk c = 0 := by
  unfold bk; repeat' split
  all_goals simp_all
theorem bk_hi (c : Nat) (h : 128 ≤ c) : bk c = 2 := by
  unfold bk
  have a : blankN c = false := by simp [blankN]; omega
  have b : digitN c = false := by simp [digitN]; omega
  have d : letterN c = true := by simp [letterN]; omega
  simp [a, b, d]
/-- is a text not right there? -/
def badN (s : ByteArray) (i : Nat) : Bool := (rlong s i == 0) || (decide (bt s i < 32) && !blankN (bt s i)) || (bt s i == 127)

theorem rlong_eq (s : ByteArray) (i : Nat) (h : i < s.size) : rlong s i = if bt s i < 128 then 1 else if Utf8.decode s i = (65533, 1) then 0 else (Utf8.decode s i).2 := by
  unfold rlong
  by_cases c : bt s i < 128
  · rw [if_pos c, if_pos c]
  · rw [if_neg c, if_neg c]
    have e := Lib.decode_at s i
    change Utf8.decode s i = Lib.decodeN (s.size - i) (bt s i) (bt s (i + 1)) (bt s (i + 2)) (bt s (i + 3)) at e
    rw [e]
    exact rlong_decodeN _ _ _ _ _ (by omega) (UInt8.toNat_lt _) (UInt8.toNat_lt _) (UInt8.toNat_lt _) (UInt8.toNat_lt _) (by omega)

theorem kindW_lo (c : Nat) (h : c < 128) : kindW (c : Int) 1 = if (decide (c < 32) && !blankN c) || c == 127 then -1 else bk c := by
  unfold kindW bk blankN digitN letterN
  repeat' split
  all_goals (try simp_all)
  all_goals omega

/-- not right by the document just if not right by the program; else of the same kind, and as long. -/
theorem bad_kind (s : ByteArray) (i : Nat) (h : i < s.size) : (badN s i = true ↔ kindP s i = -1) ∧ (badN s i = false → kindP s i = bk (bt s i) ∧ rlong s i = (Utf8.decode s i).2) := by
  have hr := rlong_eq s i h
  unfold badN kindP
  rcases dec_shape s i h with ⟨c, e⟩ | ⟨c, e⟩ | ⟨c, d1, d2, d3, d4, d5, d6⟩
  · rw [if_pos c] at hr
    rw [hr, e]
    have hk := kindW_lo (bt s i) c
    have hb : bk (bt s i) ≠ -1 := by unfold bk; repeat' split
                                     all_goals decide
    dsimp only
    rw [hk]
    constructor
    · constructor
      · intro q
        rw [if_pos (by simpa using q)]
      · intro q
        split at q
        · rename_i z; simpa using z
        · exact absurd q hb
    · intro q
      rw [if_neg (by simpa using q)]
      exact ⟨rfl, rfl⟩
  · rw [if_neg (by omega), if_pos e] at hr
    rw [hr, e]
    constructor
    · simp [kindW]
    · intro q; simp at q
  · rw [if_neg (by omega), if_neg (fun q => by rw [q] at d1; simp at d1)] at hr
    rw [hr, bk_hi _ c]
    have f1 : ((Utf8.decode s i).2 == 0) = false := by simp; omega
    have f2 : (decide (bt s i < 32)) = false := by simp; omega
    have f3 : (bt s i == 127) = false := by simp; omega
    rw [f1, f2, f3]
    have k2 : kindW ((Utf8.decode s i).1 : Int) (Utf8.decode s i).2 = 2 := by
      unfold kindW
      rw [if_neg (by omega), if_neg (by omega), if_neg (by omega)]
      split
      · rw [if_neg (by omega)]
      · rw [if_pos (by omega)]
    rw [k2]
    exact ⟨by simp, fun _ => ⟨rfl, rfl⟩⟩

end Go.Proofs.YtcmefhnfdcngfaaDoor
/- Plain mathematics: all parts of a text, each at its place, and blanks, are the text. -/
namespace Go.Proofs.YtcmefhnfdcngfaaDoor
set_option linter.unusedVariables false

/-- parts in order within a text, from a place to another one, blanks between them. -/
def Cov (s : ByteArray) : Nat → List Prt → Nat → Prop
  | at_, [], to => at_ ≤ to ∧ to ≤ s.size ∧ ∀ j, at_ ≤ j → j < to → blankN (bt s j) = true
  | at_, p :: l, to => at_ ≤ p.2.1 ∧ p.2.1 < p.2.2 ∧ p.2.2 ≤ s.size ∧ (∀ j, at_ ≤ j → j < p.2.1 → blankN (bt s j) = true) ∧ Cov s p.2.2 l to
theorem Cov_snoc (s : ByteArray) (k : Int) (x e to : Nat) : ∀ (l : List Prt) (a : Nat), Cov s a (l ++ [(k, x, e)]) to ↔ Cov s a l x ∧ x < e ∧ e ≤ s.size ∧ Cov s e [] to
  | [], a => by
    simp only [List.nil_append, Cov]
    exact ⟨fun ⟨h1, h2, h3, h4, h5⟩ => ⟨⟨h1, by omega, h4⟩, h2, h3, h5⟩, fun ⟨⟨h1, _, h4⟩, h2, h3, h5⟩ => ⟨h1, h2, h3, h4, h5⟩⟩
  | p :: l, a => by
    simp only [List.cons_append, Cov]
    rw [Cov_snoc s k x e to l p.2.2]
    simp only [Cov]
    exact ⟨fun ⟨h1, h2, h3, h4, h5, h6, h7, h8⟩ => ⟨⟨h1, h2, h3, h4, h5⟩, h6, h7, h8⟩, fun ⟨⟨h1, h2, h3, h4, h5⟩, h6, h7, h8⟩ => ⟨h1, h2, h3, h4, h5, h6, h7, h8⟩⟩
theorem Cov_more (s : ByteArray) (to n : Nat) (hn : n ≤ s.size) (hl : to ≤ n) (hb : ∀ j, to ≤ j → j < n → blankN (bt s j) = true) : ∀ (l : List Prt) (a : Nat), Cov s a l to → Cov s a l n
  | [], a, ⟨h1, h2, h3⟩ => ⟨by omega, hn, fun j h4 h5 => by
      by_cases c : j < to
      · exact h3 j h4 c
      · exact hb j (by omega) h5⟩
  | p :: l, a, ⟨h1, h2, h3, h4, h5⟩ => ⟨h1, h2, h3, h4, Cov_more s to n hn hl hb l p.2.2 h5⟩
theorem Cov_length (s : ByteArray) : ∀ (l : List Prt) (a to : Nat), Cov s a l to → l.length + a ≤ to
  | [], a, to, ⟨h1, _, _⟩ => by simp; exact h1
  | p :: l, a, to, ⟨h1, h2, h3, h4, h5⟩ => by
    have := Cov_length s l _ _ h5
    simp only [List.length_cons]; omega
theorem Cov_to (s : ByteArray) : ∀ (l : List Prt) (a to : Nat), Cov s a l to → to ≤ s.size
  | [], a, to, ⟨h1, h2, _⟩ => h2
  | p :: l, a, to, ⟨h1, h2, h3, h4, h5⟩ => Cov_to s l _ _ h5
/-- what holds on the way. -/
def Lst (l : List Prt) (pos : Nat) (a : Int) : Prop := a = 0 ∨ ∃ l' k x, l = l' ++ [(k, x, pos)]

theorem blank_one (s : ByteArray) (pos : Nat) (h : pos < s.size) (hk : kindP s pos = 0) : blankN (bt s pos) = true ∧ (Utf8.decode s pos).2 = 1 := by
  obtain ⟨k1, k2⟩ := bad_kind s pos h
  cases hb : badN s pos with
  | true => rw [k1.1 hb] at hk; exact absurd hk (by decide)
  | false =>
    have q := (k2 hb).1
    rw [hk] at q
    refine ⟨(bk_blank _).2 q.symm, ?_⟩
    rcases dec_shape s pos h with ⟨c, e⟩ | ⟨c, e⟩ | ⟨c, _⟩
    · rw [e]
    · rw [e]
    · rw [bk_hi _ c] at q; exact absurd q (by decide)

theorem Cov_blank {s : ByteArray} {pos : Nat} {l : List Prt} (h : pos < s.size) (hk : kindP s pos = 0) (hC : Cov s 0 l pos) : Cov s 0 l (pos + (Utf8.decode s pos).2) := by
  obtain ⟨b1, b2⟩ := blank_one s pos h hk
  rw [b2]
  refine Cov_more s pos (pos + 1) (by omega) (by omega) (fun j h1 h2 => ?_) l 0 hC
  obtain rfl : j = pos := by omega
  exact b1
theorem Cov_new {s : ByteArray} {pos : Nat} {l : List Prt} (k : Int) (h : pos < s.size) (hC : Cov s 0 l pos) : Cov s 0 (l ++ [(k, pos, pos + (Utf8.decode s pos).2)]) (pos + (Utf8.decode s pos).2) := by
  have hw := wd_pos s pos
  have hl := wd_le s pos h
  exact (Cov_snoc s k pos _ _ l 0).2 ⟨hC, by omega, hl, Nat.le_refl _, hl, fun j h1 h2 => by omega⟩
theorem Cov_ext {s : ByteArray} {pos : Nat} {l : List Prt} {k : Int} {x : Nat} (h : pos < s.size) (hC : Cov s 0 (l ++ [(k, x, pos)]) pos) : Cov s 0 (l ++ [(k, x, pos + (Utf8.decode s pos).2)]) (pos + (Utf8.decode s pos).2) := by
  have hw := wd_pos s pos
  have hl := wd_le s pos h
  obtain ⟨h1, h2, h3, h4⟩ := (Cov_snoc s k x pos pos l 0).1 hC
  exact (Cov_snoc s k x _ _ l 0).2 ⟨h1, by omega, hl, Nat.le_refl _, hl, fun j h1 h2 => by omega⟩

theorem split_cov (s : ByteArray) : ∀ (f pos : Nat) (l : List Prt) (a : Int) (m : List Prt), s.size ≤ pos + f → Cov s 0 l pos → Lst l pos a → splitF s f pos l a = .inr m → Cov s 0 m s.size
  | 0, pos, l, a, m, hf, hC, hL, h => by
    simp only [splitF, Sum.inr.injEq] at h; subst h
    obtain rfl : pos = s.size := by have := Cov_to s _ _ _ hC; omega
    exact hC
  | f + 1, pos, l, a, m, hf, hC, hL, h => by
    by_cases hp : pos < s.size
    · have hw := wd_pos s pos
      by_cases c1 : kindP s pos = -1
      · rw [splitF_wrong hp c1] at h; exact absurd h (by simp)
      · by_cases c0 : kindP s pos = 0
        · rw [splitF_blank hp c0] at h
          exact split_cov s f _ _ _ _ (by omega) (Cov_blank hp c0 hC) (.inl rfl) h
        · by_cases cn : kindP s pos = 3 ∨ kindP s pos ≠ a
          · rw [splitF_new hp c1 c0 cn] at h
            exact split_cov s f _ _ _ _ (by omega) (Cov_new _ hp hC) (.inr ⟨_, _, _, rfl⟩) h
          · rcases hL with hL | ⟨l', k, x, rfl⟩
            · exfalso; apply cn; right; rw [hL]; exact c0
            · rw [splitF_more hp c1 c0 (fun q => cn (.inl q)) (by
                by_cases z : kindP s pos = a
                · exact z
                · exact absurd (.inr z) cn)] at h
              exact split_cov s f _ _ _ _ (by omega) (Cov_ext hp hC) (.inr ⟨_, _, _, rfl⟩) h
    · rw [splitF_end _ _ _ _ _ hp] at h
      simp only [Sum.inr.injEq] at h; subst h
      obtain rfl : pos = s.size := by have := Cov_to s _ _ _ hC; omega
      exact hC
theorem splitB_cov {s : ByteArray} {m : List Prt} (h : splitB s = .inr m) : Cov s 0 m s.size :=
  split_cov s s.size 0 [] 0 m (by omega) ⟨Nat.le_refl _, Nat.zero_le _, fun j h1 h2 => by omega⟩ (.inl rfl) h

/-! ### two texts with a blank between them -/
theorem bt_left (a c : ByteArray) (i : Nat) (h : i < a.size) : bt (a ++ c) i = bt a i := by
  unfold bt
  rw [get_lt (a ++ c) i (by rw [ByteArray.size_append]; omega), get_lt a i h, ByteArray.getElem_append_left]
theorem bt_beyond (a : ByteArray) (i : Nat) (h : ¬ i < a.size) : bt a i = 0 := by
  unfold bt
  show (a.data[i]!).toNat = 0
  rw [getElem!_neg a.data i h]
  rfl
theorem decode_left (a c : ByteArray) (pos : Nat) (h : pos < a.size) (hk : kindP a pos ≠ -1) : Utf8.decode (a ++ c) pos = Utf8.decode a pos := by
  have e1 := Lib.decode_at a pos
  have e2 := Lib.decode_at (a ++ c) pos
  change Utf8.decode a pos = Lib.decodeN (a.size - pos) (bt a pos) (bt a (pos + 1)) (bt a (pos + 2)) (bt a (pos + 3)) at e1
  change Utf8.decode (a ++ c) pos = Lib.decodeN ((a ++ c).size - pos) (bt (a ++ c) pos) (bt (a ++ c) (pos + 1)) (bt (a ++ c) (pos + 2)) (bt (a ++ c) (pos + 3)) at e2
  have hz : a.size ≤ (a ++ c).size := by rw [ByteArray.size_append]; omega
  rw [bt_left a c pos h] at e2
  rw [e2]
  rcases Lib.decodeN_shape (a.size - pos) (bt a pos) (bt a (pos + 1)) (bt a (pos + 2)) (bt a (pos + 3)) with ⟨q1, q⟩ | ⟨c1, c2, c3, cv, q⟩ | ⟨c1, c2, c3, c4, cv, cs, q⟩ | ⟨c1, c2, c3, c4, c5, cv, cw, q⟩ | q
  · rw [e1, q]; unfold Lib.decodeN; rw [if_pos q1]
  · rw [e1, q, bt_left a c (pos + 1) (by omega)]
    unfold Lib.decodeN
    rw [if_neg (by omega), if_pos ⟨c1, by omega, c3⟩, if_pos cv]
  · rw [e1, q, bt_left a c (pos + 1) (by omega), bt_left a c (pos + 2) (by omega)]
    unfold Lib.decodeN
    rw [if_neg (by omega), if_neg (by omega), if_pos ⟨c1, ⟨by omega, c3⟩, by omega, c4⟩, if_pos ⟨cv, by have := (UInt8.toNat_lt (a.get! pos)); have : bt a pos < 256 := this; omega⟩]
  · rw [e1, q, bt_left a c (pos + 1) (by omega), bt_left a c (pos + 2) (by omega), bt_left a c (pos + 3) (by omega)]
    unfold Lib.decodeN
    rw [if_neg (by omega), if_neg (by omega), if_neg (by omega), if_pos ⟨c1, ⟨by omega, c3⟩, ⟨by omega, c4⟩, by omega, c5⟩, if_pos ⟨cv, by omega⟩]
  · exfalso
    apply hk
    rw [q] at e1
    unfold kindP
    rw [e1]
    rfl
theorem kind_left (a c : ByteArray) (pos : Nat) (h : pos < a.size) (hk : kindP a pos ≠ -1) : kindP (a ++ c) pos = kindP a pos := by
  unfold kindP; rw [decode_left a c pos h hk]

theorem split_left (a c : ByteArray) : ∀ (f F pos : Nat) (l : List Prt) (k : Int) (m : List Prt), pos ≤ a.size → a.size ≤ pos + f → (a ++ c).size ≤ pos + F → splitF a f pos l k = .inr m →
    ∃ F' k', (a ++ c).size ≤ a.size + F' ∧ splitF (a ++ c) F pos l k = splitF (a ++ c) F' a.size m k'
  | 0, F, pos, l, k, m, h0, h1, h2, h => by
    simp only [splitF, Sum.inr.injEq] at h; subst h
    obtain rfl : pos = a.size := by omega
    exact ⟨F, k, h2, rfl⟩
  | f + 1, F, pos, l, k, m, h0, h1, h2, h => by
    by_cases hp : pos < a.size
    · have hz : a.size ≤ (a ++ c).size := by rw [ByteArray.size_append]; omega
      obtain ⟨F, rfl⟩ : ∃ F', F = F' + 1 := ⟨F - 1, by omega⟩
      have hw := wd_pos a pos
      have hl := wd_le a pos hp
      by_cases c1 : kindP a pos = -1
      · rw [splitF_wrong hp c1] at h; exact absurd h (by simp)
      · have hd := decode_left a c pos hp c1
        have hk := kind_left a c pos hp c1
        rw [splitF, if_pos hp, if_neg c1] at h
        rw [splitF, if_pos (by omega), hk, if_neg c1, hd]
        split at h
        · rename_i z; rw [if_pos z]; exact split_left a c f F _ _ _ m hl (by omega) (by omega) h
        · rename_i z; rw [if_neg z]
          split at h
          · rename_i y; rw [if_pos y]; exact split_left a c f F _ _ _ m hl (by omega) (by omega) h
          · rename_i y; rw [if_neg y]; exact split_left a c f F _ _ _ m hl (by omega) (by omega) h
    · rw [splitF_end _ _ _ _ _ hp] at h
      simp only [Sum.inr.injEq] at h; subst h
      obtain rfl : pos = a.size := by omega
      exact ⟨F, k, h2, rfl⟩

theorem bt_right (a c : ByteArray) (i : Nat) : bt (a ++ c) (a.size + i) = bt c i := by
  by_cases h : i < c.size
  · unfold bt
    rw [get_lt (a ++ c) (a.size + i) (by rw [ByteArray.size_append]; omega), get_lt c i h, ByteArray.getElem_append_right (by omega)]
    simp
  · rw [bt_beyond c i h, bt_beyond (a ++ c) _ (by rw [ByteArray.size_append]; omega)]
theorem decode_right (a c : ByteArray) (pos : Nat) : Utf8.decode (a ++ c) (a.size + pos) = Utf8.decode c pos := by
  have e1 := Lib.decode_at c pos
  have e2 := Lib.decode_at (a ++ c) (a.size + pos)
  change Utf8.decode c pos = Lib.decodeN (c.size - pos) (bt c pos) (bt c (pos + 1)) (bt c (pos + 2)) (bt c (pos + 3)) at e1
  change Utf8.decode (a ++ c) (a.size + pos) = Lib.decodeN ((a ++ c).size - (a.size + pos)) (bt (a ++ c) (a.size + pos)) (bt (a ++ c) (a.size + (pos + 1))) (bt (a ++ c) (a.size + (pos + 2))) (bt (a ++ c) (a.size + (pos + 3))) at e2
  rw [e1, e2, bt_right, bt_right, bt_right, bt_right, ByteArray.size_append, show a.size + c.size - (a.size + pos) = c.size - pos by omega]
theorem kind_right (a c : ByteArray) (pos : Nat) : kindP (a ++ c) (a.size + pos) = kindP c pos := by unfold kindP; rw [decode_right]

def sh (n : Nat) (p : Prt) : Prt := (p.1, n + p.2.1, n + p.2.2)
theorem split_right (a c : ByteArray) (L : List Prt) : ∀ (f F pos : Nat) (l : List Prt) (k : Int) (m : List Prt), c.size ≤ pos + f → c.size ≤ pos + F → (k = 0 ∨ l ≠ []) → splitF c f pos l k = .inr m →
    splitF (a ++ c) F (a.size + pos) (L ++ l.map (sh a.size)) k = .inr (L ++ m.map (sh a.size))
  | 0, F, pos, l, k, m, h1, h2, hl, h => by
    simp only [splitF, Sum.inr.injEq] at h; subst h
    rw [splitF_end _ _ _ _ _ (by rw [ByteArray.size_append]; omega)]
  | f + 1, F, pos, l, k, m, h1, h2, hl, h => by
    by_cases hp : pos < c.size
    · obtain ⟨F, rfl⟩ : ∃ F', F = F' + 1 := ⟨F - 1, by omega⟩
      have hw := wd_pos c pos
      rw [splitF, if_pos (by rw [ByteArray.size_append]; omega), kind_right, decode_right]
      by_cases c1 : kindP c pos = -1
      · rw [splitF_wrong hp c1] at h; exact absurd h (by simp)
      · rw [if_neg c1]
        by_cases c0 : kindP c pos = 0
        · rw [splitF_blank hp c0] at h
          rw [if_pos c0, Nat.add_assoc]
          exact split_right a c L f F _ _ _ m (by omega) (by omega) (.inl rfl) h
        · rw [if_neg c0]
          by_cases cn : kindP c pos = 3 ∨ kindP c pos ≠ k
          · rw [splitF_new hp c1 c0 cn] at h
            rw [if_pos cn, Nat.add_assoc, List.append_assoc]
            have := split_right a c L f F _ _ _ m (by omega) (by omega) (.inr (by simp)) h
            rw [List.map_append] at this
            exact this
          · have hk : kindP c pos = k := by
              by_cases z : kindP c pos = k
              · exact z
              · exact absurd (.inr z) cn
            have hne : l ≠ [] := by
              rcases hl with z | z
              · exfalso; rw [z] at hk; exact c0 hk
              · exact z
            obtain ⟨l', ⟨q, x, y⟩, rfl⟩ : ∃ l' p, l = l' ++ [p] := ⟨l.dropLast, l.getLast hne, (List.dropLast_concat_getLast hne).symm⟩
            rw [splitF_more hp c1 c0 (fun z => cn (.inl z)) hk] at h
            rw [if_neg cn, Nat.add_assoc, hk]
            have e : (L ++ (l' ++ [(q, x, y)]).map (sh a.size)) = (L ++ l'.map (sh a.size)) ++ [sh a.size (q, x, y)] := by simp
            rw [e]
            simp only [List.dropLast_concat, List.getLast?_concat, Option.getD_some]
            have := split_right a c L f F _ _ _ m (by omega) (by omega) (.inr (by simp)) h
            rw [List.map_append, ← List.append_assoc] at this
            exact this
    · rw [splitF_end _ _ _ _ _ hp] at h
      simp only [Sum.inr.injEq] at h; subst h
      rw [splitF_end _ _ _ _ _ (by rw [ByteArray.size_append]; omega)]

end Go.Proofs.YtcmefhnfdcngfaaDoor
/- Plain mathematics of digits as a number. -/
namespace Go.Proofs.YtcmefhnfdcngfaaDoor
set_option linter.unusedVariables false

/-! ### where a text stands among others -/
end Go.Proofs.YtcmefhnfdcngfaaDoor
