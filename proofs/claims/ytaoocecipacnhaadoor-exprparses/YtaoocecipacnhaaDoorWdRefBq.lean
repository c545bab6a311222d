/- Plain mathematics: the document's way to part a text and the program's way give the same parts. -/
import Derived.Test.YtaoocecipacnhaaDoorWdRefq
namespace Go.Proofs.YtaoocecipacnhaaDoor
set_option linter.unusedVariables false

def blankN (c : Nat) : Bool := c == 32 || c == 9 || c == 10 || c == 13
def digitN (c : Nat) : Bool := decide (48 ≤ c) && decide (c ≤ 57)
def letterN (c : Nat) : Bool := (decide (97 ≤ c) && decide (c ≤ 122)) || (decide (65 ≤ c) && decide (c ≤ 90)) || c == 95 || decide (127 < c)
/-- which part a byte is of. -/
def bk (c : Nat) : Int := if blankN c then 0 else if digitN c then 1 else if letterN c then 2 else 3
theorem bk_range (c : Nat) : bk c = 0 ∨ bk c = 1 ∨ bk c = 2 ∨ bk c = 3 := by
  unfold bk; repeat' split
  all_goals simp
theorem bk_blank (c : Nat) : blankN c = true ↔ bk c = 0 := by
  unfold bk; repeat' split
  all_goals simp_all
theorem bk_hi (c : Nat) (h : 128 ≤ c) : bk c = 2 := by
  unfold bk
  have a : blankN c = false := by simp [blankN]; omega
  have b : digitN c = false := by simp [digitN]; omega
  have d : letterN c = true := by simp [letterN]; omega
  simp [a, b, d]
theorem bk_digit (c : Nat) : digitN c = true ↔ bk c = 1 := by
  unfold bk; repeat' split
  all_goals simp_all [blankN, digitN]
  all_goals omega
theorem bk_letter (c : Nat) : letterN c = true ↔ bk c = 2 := by
  unfold bk; repeat' split
  all_goals simp_all [blankN, digitN, letterN]
  all_goals omega

/-- is a text not right there? -/
def badN (s : ByteArray) (i : Nat) : Bool := (rlong s i == 0) || (decide (bt s i < 32) && !blankN (bt s i)) || (bt s i == 127)

theorem rlong_eq (s : ByteArray) (i : Nat) (h : i < s.size) : rlong s i = if bt s i < 128 then 1 else if Utf8.decode s i = (65533, 1) then 0 else (Utf8.decode s i).2 := by
  unfold rlong
  by_cases c : bt s i < 128
  · rw [if_pos c, if_pos c]
  · rw [if_neg c, if_neg c]
    have e := Lib.decode_at s i
    change Utf8.decode s i = Lib.decodeN (s.size - i) (bt s i) (bt s (i + 1)) (bt s (i + 2)) (bt s (i + 3)) at e
    rw [e]
    exact rlong_decodeN _ _ _ _ _ (by omega) (UInt8.toNat_lt _) (UInt8.toNat_lt _) (UInt8.toNat_lt _) (UInt8.toNat_lt _) (by omega)

theorem kindW_lo (c : Nat) (h : c < 128) : kindW (c : Int) 1 = if (decide (c < 32) && !blankN c) || c == 127 then -1 else bk c := by
  unfold kindW bk blankN digitN letterN
  repeat' split
  all_goals (try simp_all)
  all_goals omega

/-- not right by the document just if not right by the program; else of the same kind, and as long. -/
theorem bad_kind (s : ByteArray) (i : Nat) (h : i < s.size) : (badN s i = true ↔ kindP s i = -1) ∧ (badN s i = false → kindP s i = bk (bt s i) ∧ rlong s i = (Utf8.decode s i).2) := by
  have hr := rlong_eq s i h
  unfold badN kindP
  rcases dec_shape s i h with ⟨c, e⟩ | ⟨c, e⟩ | ⟨c, d1, d2, d3, d4, d5, d6⟩
  · rw [if_pos c] at hr
    rw [hr, e]
    have hk := kindW_lo (bt s i) c
    have hb : bk (bt s i) ≠ -1 := by unfold bk; repeat' split
                                     all_goals decide
    dsimp only
    rw [hk]
    constructor
    · constructor
      · intro q
        rw [if_pos (by simpa using q)]
      · intro q
        split at q
        · rename_i z; simpa using z
        · exact absurd q hb
    · intro q
      rw [if_neg (by simpa using q)]
      exact ⟨rfl, rfl⟩
  · rw [if_neg (by omega), if_pos e] at hr
    rw [hr, e]
    constructor
    · simp [kindW]
    · intro q; simp at q
  · rw [if_neg (by omega), if_neg (fun q => by rw [q] at d1; simp at d1)] at hr
    rw [hr, bk_hi _ c]
    have f1 : ((Utf8.decode s i).2 == 0) = false := by simp; omega
    have f2 : (decide (bt s i < 32)) = false := by simp; omega
    have f3 : (bt s i == 127) = false := by simp; omega
    rw [f1, f2, f3]
    have k2 : kindW ((Utf8.decode s i).1 : Int) (Utf8.decode s i).2 = 2 := by
      unfold kindW
      rw [if_neg (by omega), if_neg (by omega), if_neg (by omega)]
      split
      · rw [if_neg (by omega)]
      · rw [if_pos (by omega)]
    rw [k2]
    exact ⟨by simp, fun _ => ⟨rfl, rfl⟩⟩

/-- the first place that is not right. -/
def rcheck (s : ByteArray) : Nat → Nat → Option Nat
  | 0, _ => none
  | f + 1, i => if i < s.size then (if badN s i = true then some i else rcheck s f (i + rlong s i)) else none
theorem rcheck_end (s : ByteArray) (f i : Nat) (h : ¬ i < s.size) : rcheck s f i = none := by
  cases f with
  | zero => rfl
  | succ f => simp [rcheck, h]
theorem rcheck_bad {s : ByteArray} {f i : Nat} (h : i < s.size) (hb : badN s i = true) : rcheck s (f + 1) i = some i := by rw [rcheck, if_pos h, if_pos hb]
theorem rcheck_next {s : ByteArray} {f i : Nat} (h : i < s.size) (hb : badN s i = false) : rcheck s (f + 1) i = rcheck s f (i + rlong s i) := by rw [rcheck, if_pos h, if_neg (by rw [hb]; decide)]

/-- where bytes of one kind end. -/
def runE (s : ByteArray) (k : Int) : Nat → Nat → Nat
  | 0, i => i
  | f + 1, i => if i < s.size ∧ bk (bt s i) = k then runE s k f (i + 1) else i
theorem runE_fuel (s : ByteArray) (k : Int) : ∀ (f g i : Nat), s.size ≤ i + f → s.size ≤ i + g → runE s k f i = runE s k g i
  | 0, 0, i, _, _ => rfl
  | 0, g + 1, i, h, _ => by rw [runE, runE, if_neg (by omega)]
  | f + 1, 0, i, _, h => by rw [runE, runE, if_neg (by omega)]
  | f + 1, g + 1, i, h1, h2 => by
    rw [runE, runE]
    split
    · exact runE_fuel s k f g (i + 1) (by omega) (by omega)
    · rfl
/-- the same, with as many steps as there are bytes. -/
def runEnd (s : ByteArray) (k : Int) (i : Nat) : Nat := runE s k s.size i
theorem runEnd_next {s : ByteArray} {k : Int} {i : Nat} (h : i < s.size) (hk : bk (bt s i) = k) : runEnd s k i = runEnd s k (i + 1) := by
  unfold runEnd
  rw [runE_fuel s k s.size (s.size + 1) i (by omega) (by omega), runE, if_pos ⟨h, hk⟩]
theorem runEnd_stop {s : ByteArray} {k : Int} {i : Nat} (h : ¬ (i < s.size ∧ bk (bt s i) = k)) : runEnd s k i = i := by
  unfold runEnd
  rw [runE_fuel s k s.size (s.size + 1) i (by omega) (by omega), runE, if_neg h]
theorem runEnd_many {s : ByteArray} {k : Int} {i : Nat} : ∀ n, (∀ j, j < n → i + j < s.size ∧ bk (bt s (i + j)) = k) → runEnd s k i = runEnd s k (i + n)
  | 0, _ => rfl
  | n + 1, h => by
    rw [runEnd_many n (fun j hj => h j (by omega))]
    have := h n (by omega)
    rw [runEnd_next this.1 this.2]
    rfl
theorem runEnd_ge (s : ByteArray) (k : Int) : ∀ (f i : Nat), i ≤ runE s k f i ∧ (i ≤ s.size → runE s k f i ≤ s.size)
  | 0, i => ⟨Nat.le_refl _, fun h => h⟩
  | f + 1, i => by
    rw [runE]
    split
    · rename_i c
      have := runEnd_ge s k f (i + 1)
      exact ⟨by omega, fun _ => this.2 (by omega)⟩
    · exact ⟨Nat.le_refl _, fun h => h⟩
theorem runEnd_at (s : ByteArray) (k : Int) : ∀ (n i : Nat), s.size ≤ i + n → ¬ (runEnd s k i < s.size ∧ bk (bt s (runEnd s k i)) = k)
  | 0, i, h => by rw [runEnd_stop (by omega)]; omega
  | n + 1, i, h => by
    by_cases c : i < s.size ∧ bk (bt s i) = k
    · rw [runEnd_next c.1 c.2]; exact runEnd_at s k n (i + 1) (by omega)
    · rw [runEnd_stop c]; exact c

/-- all parts, by bytes. -/
def rparts (s : ByteArray) : Nat → Nat → List Prt → List Prt
  | 0, _, l => l
  | f + 1, i, l =>
    if i < s.size then
      if bk (bt s i) = 0 then rparts s f (i + 1) l
      else if bk (bt s i) = 3 then rparts s f (i + 1) (l ++ [(3, i, i + 1)])
      else rparts s f (runEnd s (bk (bt s i)) i) (l ++ [(bk (bt s i), i, runEnd s (bk (bt s i)) i)])
    else l
theorem rparts_end (s : ByteArray) (f i : Nat) (l : List Prt) (h : ¬ i < s.size) : rparts s f i l = l := by
  cases f with
  | zero => rfl
  | succ f => simp [rparts, h]

theorem split_bad (s : ByteArray) : ∀ (f pos : Nat) (l : List Prt) (a : Int), (∀ i, rcheck s f pos = some i → splitF s f pos l a = .inl i) ∧ (rcheck s f pos = none → ∃ m, splitF s f pos l a = .inr m)
  | 0, pos, l, a => ⟨fun i h => by simp [rcheck] at h, fun _ => ⟨l, rfl⟩⟩
  | f + 1, pos, l, a => by
    by_cases hp : pos < s.size
    · obtain ⟨k1, k2⟩ := bad_kind s pos hp
      cases hb : badN s pos with
      | true =>
        rw [rcheck_bad hp hb, splitF_wrong hp (k1.1 hb)]
        exact ⟨fun i h => by rw [Option.some.injEq] at h; rw [h], fun h => by simp at h⟩
      | false =>
        obtain ⟨q1, q2⟩ := k2 hb
        rw [rcheck_next hp hb, q2]
        have hn : kindP s pos ≠ -1 := fun q => by rw [k1.2 q] at hb; exact absurd hb (by decide)
        rw [splitF, if_pos hp, if_neg hn]
        split
        · exact split_bad s f _ _ _
        · split
          · exact split_bad s f _ _ _
          · exact split_bad s f _ _ _
    · rw [rcheck_end _ _ _ hp, splitF_end _ _ _ _ _ hp]
      exact ⟨fun i h => by simp at h, fun _ => ⟨l, rfl⟩⟩

/-- a part that goes on, up to where its bytes end. -/
theorem split_run (s : ByteArray) (k : Int) (hk : k = 1 ∨ k = 2) (l : List Prt) (x : Nat) : ∀ (f pos : Nat), pos ≤ s.size → s.size ≤ pos + f → rcheck s f pos = none →
    ∃ f', s.size ≤ runEnd s k pos + f' ∧ f' ≤ f ∧ rcheck s f' (runEnd s k pos) = none ∧ splitF s f pos (l ++ [(k, x, pos)]) k = splitF s f' (runEnd s k pos) (l ++ [(k, x, runEnd s k pos)]) k
  | 0, pos, h1, h2, hc => by
    rw [runEnd_stop (by omega)]
    exact ⟨0, h2, Nat.le_refl _, hc, rfl⟩
  | f + 1, pos, h1, h2, hc => by
    by_cases c : pos < s.size ∧ bk (bt s pos) = k
    · obtain ⟨hp, ck⟩ := c
      obtain ⟨k1, k2⟩ := bad_kind s pos hp
      cases hb : badN s pos with
      | true => rw [rcheck_bad hp hb] at hc; exact absurd hc (by simp)
      | false =>
        obtain ⟨q1, q2⟩ := k2 hb
        rw [rcheck_next hp hb, q2] at hc
        have hw := wd_pos s pos
        have hl := wd_le s pos hp
        have hm : runEnd s k pos = runEnd s k (pos + (Utf8.decode s pos).2) := by
          apply runEnd_many
          intro j hj
          refine ⟨by omega, ?_⟩
          rcases dec_shape s pos hp with ⟨c, e⟩ | ⟨c, e⟩ | ⟨c, d1, d2, d3, d4, d5, d6⟩
          · rw [e] at hj
            obtain rfl : j = 0 := by simp only at hj; omega
            exact ck
          · rw [e] at hj
            obtain rfl : j = 0 := by simp only at hj; omega
            exact ck
          · by_cases z : j = 0
            · subst z; exact ck
            · rw [bk_hi _ (d5 j (by omega) hj), ← ck, bk_hi _ c]
        rw [hm, splitF_more hp (by rw [q1, ck]; omega) (by rw [q1, ck]; omega) (by rw [q1, ck]; omega) (by rw [q1, ck])]
        obtain ⟨f', g1, g2, g3, g4⟩ := split_run s k hk l x f (pos + (Utf8.decode s pos).2) hl (by omega) hc
        exact ⟨f', g1, by omega, g3, g4⟩
    · rw [runEnd_stop c]
      exact ⟨f + 1, h2, Nat.le_refl _, hc, rfl⟩

theorem split_parts (s : ByteArray) : ∀ (n f g pos : Nat) (l : List Prt) (a : Int), s.size - pos ≤ n → pos ≤ s.size → s.size ≤ pos + f → s.size ≤ pos + g → rcheck s f pos = none →
    (pos < s.size → bk (bt s pos) ≠ 0 → bk (bt s pos) = 3 ∨ bk (bt s pos) ≠ a) → splitF s f pos l a = .inr (rparts s g pos l)
  | 0, f, g, pos, l, a, h0, h1, h2, h3, hc, ha => by
    rw [splitF_end _ _ _ _ _ (by omega), rparts_end _ _ _ _ (by omega)]
  | n + 1, f, g, pos, l, a, h0, h1, h2, h3, hc, ha => by
    by_cases hp : pos < s.size
    · obtain ⟨f, rfl⟩ : ∃ f', f = f' + 1 := ⟨f - 1, by omega⟩
      obtain ⟨g, rfl⟩ : ∃ g', g = g' + 1 := ⟨g - 1, by omega⟩
      obtain ⟨k1, k2⟩ := bad_kind s pos hp
      cases hb : badN s pos with
      | true => rw [rcheck_bad hp hb] at hc; exact absurd hc (by simp)
      | false =>
        obtain ⟨q1, q2⟩ := k2 hb
        have hc0 := hc
        rw [rcheck_next hp hb, q2] at hc
        have hw := wd_pos s pos
        have hl := wd_le s pos hp
        have one : bk (bt s pos) ≠ 2 → (Utf8.decode s pos).2 = 1 := by
          intro z
          rcases dec_shape s pos hp with ⟨c, e⟩ | ⟨c, e⟩ | ⟨c, _⟩
          · rw [e]
          · rw [e]
          · exact absurd (bk_hi _ c) z
        have hn : kindP s pos ≠ -1 := fun q => by rw [k1.2 q] at hb; exact absurd hb (by decide)
        rw [rparts, if_pos hp]
        by_cases z0 : bk (bt s pos) = 0
        · rw [if_pos z0, splitF_blank hp (by rw [q1, z0])]
          rw [one (by omega)] at hc hl ⊢
          exact split_parts s n f g (pos + 1) l 0 (by omega) hl (by omega) (by omega) hc (fun _ z => .inr z)
        · rw [if_neg z0]
          by_cases z3 : bk (bt s pos) = 3
          · rw [if_pos z3, splitF_new hp hn (by rw [q1]; exact z0) (.inl (by rw [q1, z3])), q1, z3]
            rw [one (by omega)] at hc hl ⊢
            refine split_parts s n f g (pos + 1) _ 3 (by omega) hl (by omega) (by omega) hc (fun _ z => ?_)
            by_cases y : bk (bt s (pos + 1)) = 3
            · exact .inl y
            · exact .inr y
          · rw [if_neg z3, splitF_new hp hn (by rw [q1]; exact z0) (by rw [q1]; exact ha hp z0), q1]
            have hk : bk (bt s pos) = 1 ∨ bk (bt s pos) = 2 := by
              have := bk_range (bt s pos)
              omega
            obtain ⟨k, ek⟩ : ∃ k, bk (bt s pos) = k := ⟨_, rfl⟩
            rw [ek] at hk z0 z3 ⊢
            have hm : runEnd s k pos = runEnd s k (pos + (Utf8.decode s pos).2) := by
              apply runEnd_many
              intro j hj
              refine ⟨by omega, ?_⟩
              rcases dec_shape s pos hp with ⟨c, e⟩ | ⟨c, e⟩ | ⟨c, d1, d2, d3, d4, d5, d6⟩
              · rw [e] at hj
                obtain rfl : j = 0 := by simp only at hj; omega
                exact ek
              · rw [e] at hj
                obtain rfl : j = 0 := by simp only at hj; omega
                exact ek
              · by_cases z : j = 0
                · subst z; exact ek
                · rw [bk_hi _ (d5 j (by omega) hj), ← ek, bk_hi _ c]
            rw [hm]
            obtain ⟨f', g1, g2, g3, g4⟩ := split_run s k hk l pos f (pos + (Utf8.decode s pos).2) hl (by omega) hc
            rw [g4]
            have ge := runEnd_ge s k s.size (pos + (Utf8.decode s pos).2)
            change _ ≤ runEnd s k _ ∧ (_ → runEnd s k _ ≤ _) at ge
            have hat := runEnd_at s k s.size (pos + (Utf8.decode s pos).2) (by omega)
            exact split_parts s n f' g _ _ k (by omega) (ge.2 hl) g1 (by omega) g3 (fun y1 y2 => .inr (fun y3 => hat ⟨y1, y3⟩))
    · rw [splitF_end _ _ _ _ _ hp, rparts_end _ _ _ _ hp]

theorem splitB_bad {s : ByteArray} {i : Nat} (h : rcheck s s.size 0 = some i) : splitB s = .inl i := (split_bad s s.size 0 [] 0).1 i h
theorem splitB_good {s : ByteArray} (h : rcheck s s.size 0 = none) : splitB s = .inr (rparts s s.size 0 []) :=
  split_parts s s.size s.size s.size 0 [] 0 (by omega) (by omega) (by omega) (by omega) h (fun _ z => .inr z)

end Go.Proofs.YtaoocecipacnhaaDoor
