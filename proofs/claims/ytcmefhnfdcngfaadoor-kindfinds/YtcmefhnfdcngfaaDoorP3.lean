import Derived.Lib.MapLaws
import Derived.Laws.RangeAny
/- Plain mathematics of the parts of a text: which part a rune is of, and what comes of a text rune by rune. -/
namespace Go.Proofs.YtcmefhnfdcngfaaDoor
set_option linter.unusedVariables false

/-- the byte at a place. -/
def bt (s : ByteArray) (i : Nat) : Nat := (s.get! i).toNat

/-- a rune is one byte; or broken; or two to four bytes, all of them above 127. -/
theorem dec_shape (s : ByteArray) (pos : Nat) (h : pos < s.size) :
    (bt s pos < 128 ∧ Utf8.decode s pos = (bt s pos, 1)) ∨
    (128 ≤ bt s pos ∧ Utf8.decode s pos = (65533, 1)) ∨
    (128 ≤ bt s pos ∧ 2 ≤ (Utf8.decode s pos).2 ∧ (Utf8.decode s pos).2 ≤ 4 ∧ pos + (Utf8.decode s pos).2 ≤ s.size ∧ 128 ≤ (Utf8.decode s pos).1 ∧
      (∀ j, 1 ≤ j → j < (Utf8.decode s pos).2 → 128 ≤ bt s (pos + j)) ∧ Lib.runeLen ((Utf8.decode s pos).1 : Int) = ((Utf8.decode s pos).2 : Int)) := by
  have h0 : bt s pos < 256 := UInt8.toNat_lt _
  have h1 : bt s (pos + 1) < 256 := UInt8.toNat_lt _
  have h2 : bt s (pos + 2) < 256 := UInt8.toNat_lt _
  have h3 : bt s (pos + 3) < 256 := UInt8.toNat_lt _
  have e := Lib.decode_at s pos
  change Utf8.decode s pos = Lib.decodeN (s.size - pos) (bt s pos) (bt s (pos + 1)) (bt s (pos + 2)) (bt s (pos + 3)) at e
  rcases Lib.decodeN_shape (s.size - pos) (bt s pos) (bt s (pos + 1)) (bt s (pos + 2)) (bt s (pos + 3)) with ⟨c, q⟩ | ⟨c1, c2, c3, cv, q⟩ | ⟨c1, c2, c3, c4, cv, cs, q⟩ | ⟨c1, c2, c3, c4, c5, cv, cw, q⟩ | q
  · exact .inl ⟨c, e.trans q⟩
  · rw [e, q]
    refine .inr (.inr ⟨by omega, by simp, by simp, by simp; omega, by simp; omega, ?_, ?_⟩)
    · intro j a b
      obtain rfl : j = 1 := by simp at b; omega
      omega
    · unfold Lib.runeLen; dsimp only; repeat' split
      all_goals omega
  · rw [e, q]
    refine .inr (.inr ⟨by omega, by simp, by simp, by simp; omega, by simp; omega, ?_, ?_⟩)
    · intro j a b
      have : j = 1 ∨ j = 2 := by simp at b; omega
      rcases this with rfl | rfl <;> omega
    · unfold Lib.runeLen; dsimp only; repeat' split
      all_goals omega
  · rw [e, q]
    refine .inr (.inr ⟨by omega, by simp, by simp, by simp; omega, by simp; omega, ?_, ?_⟩)
    · intro j a b
      have : j = 1 ∨ j = 2 ∨ j = 3 := by simp at b; omega
      rcases this with rfl | rfl | rfl <;> omega
    · unfold Lib.runeLen; dsimp only; repeat' split
      all_goals omega
  · by_cases c : bt s pos < 128
    · refine .inl ⟨c, ?_⟩
      rw [e]; unfold Lib.decodeN; rw [if_pos c]
    · exact .inr (.inl ⟨by omega, e.trans q⟩)

/-- which part a rune of so many bytes is of: 0 none, -1 of no text that is right. -/
def kindW (R : Int) (wd : Nat) : Int :=
  if R = 32 ∨ R = 9 ∨ R = 10 ∨ R = 13 then 0
  else if R < 32 ∨ R = 127 then -1
  else if 48 ≤ R ∧ R ≤ 57 then 1
  else if R = 65533 then (if wd = 1 then -1 else 2)
  else if 127 < R ∨ R = 95 ∨ (97 ≤ R ∧ R ≤ 122) ∨ (65 ≤ R ∧ R ≤ 90) then 2
  else 3
theorem kindW_range (R : Int) (wd : Nat) : kindW R wd = -1 ∨ kindW R wd = 0 ∨ kindW R wd = 1 ∨ kindW R wd = 2 ∨ kindW R wd = 3 := by
  unfold kindW; repeat' split
  all_goals simp
/-- the same at a place of a text. -/
def kindP (s : ByteArray) (pos : Nat) : Int := kindW ((Utf8.decode s pos).1 : Int) (Utf8.decode s pos).2

theorem wd_pos (s : ByteArray) (pos : Nat) : 1 ≤ (Utf8.decode s pos).2 := Lib.width_pos s pos
theorem wd_le (s : ByteArray) (pos : Nat) (h : pos < s.size) : pos + (Utf8.decode s pos).2 ≤ s.size := by
  rcases dec_shape s pos h with ⟨_, e⟩ | ⟨_, e⟩ | ⟨_, _, _, e, _⟩
  · rw [e]; simp only; omega
  · rw [e]; simp only; omega
  · exact e
theorem wd_len (s : ByteArray) (pos : Nat) (h : pos < s.size) (hk : kindP s pos ≠ -1) : Lib.runeLen ((Utf8.decode s pos).1 : Int) = ((Utf8.decode s pos).2 : Int) := by
  rcases dec_shape s pos h with ⟨c, e⟩ | ⟨_, e⟩ | ⟨_, _, _, _, _, _, e⟩
  · rw [e]; unfold Lib.runeLen; simp only; repeat' split
    all_goals omega
  · exfalso; apply hk; unfold kindP; rw [e]; rfl
  · exact e

/-- a part: its kind, its first place, the place behind it. -/
abbrev Prt := Int × Nat × Nat

/-- what comes of a text, from a place on: the place where it is not right, or all parts. -/
def splitF (s : ByteArray) : Nat → Nat → List Prt → Int → Sum Nat (List Prt)
  | 0, _, l, _ => .inr l
  | f + 1, pos, l, a =>
    if pos < s.size then
      if kindP s pos = -1 then .inl pos
      else if kindP s pos = 0 then splitF s f (pos + (Utf8.decode s pos).2) l 0
      else if kindP s pos = 3 ∨ kindP s pos ≠ a then splitF s f (pos + (Utf8.decode s pos).2) (l ++ [(kindP s pos, pos, pos + (Utf8.decode s pos).2)]) (kindP s pos)
      else splitF s f (pos + (Utf8.decode s pos).2) (l.dropLast ++ [((l.getLast?.getD (0, 0, 0)).1, (l.getLast?.getD (0, 0, 0)).2.1, pos + (Utf8.decode s pos).2)]) (kindP s pos)
    else .inr l
theorem splitF_end (s : ByteArray) (f pos : Nat) (l : List Prt) (a : Int) (h : ¬ pos < s.size) : splitF s f pos l a = .inr l := by
  cases f with
  | zero => rfl
  | succ f => simp [splitF, h]
theorem splitF_wrong {s : ByteArray} {f pos : Nat} {l : List Prt} {a : Int} (hp : pos < s.size) (h : kindP s pos = -1) : splitF s (f + 1) pos l a = .inl pos := by
  rw [splitF, if_pos hp, if_pos h]
theorem splitF_blank {s : ByteArray} {f pos : Nat} {l : List Prt} {a : Int} (hp : pos < s.size) (h : kindP s pos = 0) : splitF s (f + 1) pos l a = splitF s f (pos + (Utf8.decode s pos).2) l 0 := by
  rw [splitF, if_pos hp, if_neg (by omega), if_pos h]
theorem splitF_new {s : ByteArray} {f pos : Nat} {l : List Prt} {a : Int} (hp : pos < s.size) (h1 : kindP s pos ≠ -1) (h0 : kindP s pos ≠ 0) (h : kindP s pos = 3 ∨ kindP s pos ≠ a) :
    splitF s (f + 1) pos l a = splitF s f (pos + (Utf8.decode s pos).2) (l ++ [(kindP s pos, pos, pos + (Utf8.decode s pos).2)]) (kindP s pos) := by
  rw [splitF, if_pos hp, if_neg h1, if_neg h0, if_pos h]
theorem splitF_more {s : ByteArray} {f pos : Nat} {l : List Prt} {a k : Int} {x y : Nat} (hp : pos < s.size) (h1 : kindP s pos ≠ -1) (h0 : kindP s pos ≠ 0) (h3 : kindP s pos ≠ 3) (h : kindP s pos = a) :
    splitF s (f + 1) pos (l ++ [(k, x, y)]) a = splitF s f (pos + (Utf8.decode s pos).2) (l ++ [(k, x, pos + (Utf8.decode s pos).2)]) a := by
  rw [splitF, if_pos hp, if_neg h1, if_neg h0, if_neg (fun q => by rcases q with q | q; exact h3 q; exact q h)]
  simp [h]

/-- the whole of it. -/
def splitB (s : ByteArray) : Sum Nat (List Prt) := splitF s s.size 0 [] 0

end Go.Proofs.YtcmefhnfdcngfaaDoor
/- Plain mathematics of small letters. -/
namespace Go.Proofs.YtcmefhnfdcngfaaDoor
set_option linter.unusedVariables false

def lowC (c : UInt8) : UInt8 := if 65 ≤ c.toNat ∧ c.toNat ≤ 90 then c + 32 else c
def lowB (s : ByteArray) : ByteArray := ⟨s.data.map lowC⟩
/-- small letters up to a place. -/
def lowTo (s : ByteArray) (p : Nat) : List UInt8 := (s.data.toList.take p).map lowC ++ s.data.toList.drop p

theorem sz (s : ByteArray) : s.data.toList.length = s.size := Array.length_toList
theorem lowB_size (s : ByteArray) : (lowB s).size = s.size := by show (s.data.map lowC).size = s.data.size; exact Array.size_map
theorem low32 (c : UInt8) (h : 65 ≤ c.toNat ∧ c.toNat ≤ 90) : (c + 32).toNat = c.toNat + 32 := by rw [UInt8.toNat_add]; simp; omega
theorem lowTo_get (s : ByteArray) (p j : Nat) : (lowTo s p)[j]? = (s.data.toList[j]?).map (fun c => if j < p then lowC c else c) := by
  unfold lowTo
  by_cases hj : j < s.data.toList.length
  · by_cases h : j < p
    · rw [List.getElem?_append_left (by simp at hj ⊢; omega)]
      simp [h]
    · have hl : ((s.data.toList.take p).map lowC).length = p := by rw [List.length_map, List.length_take]; omega
      rw [List.getElem?_append_right (by rw [hl]; omega), hl, List.getElem?_drop, show p + (j - p) = j by omega]
      simp [h]
  · rw [List.getElem?_eq_none (by simp only [List.length_append, List.length_map, List.length_take, List.length_drop]; omega), List.getElem?_eq_none (by omega)]
    rfl
theorem lowTo_length (s : ByteArray) (p : Nat) : (lowTo s p).length = s.size := by
  unfold lowTo; simp only [List.length_append, List.length_map, List.length_take, List.length_drop, Array.length_toList]; show _ = s.data.size; omega
theorem lowTo_zero (s : ByteArray) : lowTo s 0 = s.data.toList := by simp [lowTo]
theorem lowTo_all (s : ByteArray) (p : Nat) (h : s.size ≤ p) : lowTo s p = (lowB s).data.toList := by
  unfold lowTo lowB
  rw [List.take_of_length_le (by rw [sz]; exact h), List.drop_of_length_le (by rw [sz]; exact h)]
  simp
theorem lowTo_end (s : ByteArray) (p : Nat) (h : ¬ p < s.size) : (⟨(lowTo s p).toArray⟩ : ByteArray) = lowB s := by
  rw [lowTo_all s p (by omega)]

theorem get_lt (s : ByteArray) (k : Nat) (h : k < s.size) : s.get! k = s[k]'h := by
  show s.data[k]! = _
  rw [getElem!_pos s.data k h]
  rfl
theorem bt_get (s : ByteArray) (j : Nat) (h : j < s.size) : s.data.toList[j]? = some (s[j]'h) ∧ (s[j]'h).toNat = bt s j := by
  constructor
  · rw [List.getElem?_eq_getElem (by rw [sz]; exact h)]; rfl
  · unfold bt; rw [get_lt s j h]

/-- a rune that is none of A to Z changes nothing. -/
theorem lowTo_skip (s : ByteArray) (pos : Nat) (h : pos < s.size) (hR : ¬ (65 ≤ (Utf8.decode s pos).1 ∧ (Utf8.decode s pos).1 ≤ 90)) :
    lowTo s (pos + (Utf8.decode s pos).2) = lowTo s pos := by
  have key : ∀ j, pos ≤ j → j < pos + (Utf8.decode s pos).2 → j < s.size → ¬ (65 ≤ bt s j ∧ bt s j ≤ 90) := by
    intro j a b hj
    rcases dec_shape s pos h with ⟨c, e⟩ | ⟨c, e⟩ | ⟨c, _, _, _, _, d, _⟩
    · rw [e] at hR b
      obtain rfl : j = pos := by simp only at b; omega
      exact hR
    · rw [e] at b
      obtain rfl : j = pos := by simp only at b; omega
      omega
    · by_cases q : j = pos
      · subst q; omega
      · have := d (j - pos) (by omega) (by omega)
        rw [show pos + (j - pos) = j by omega] at this
        omega
  apply List.ext_getElem?
  intro j
  rw [lowTo_get, lowTo_get]
  by_cases hj : j < s.size
  · obtain ⟨e1, e2⟩ := bt_get s j hj
    rw [e1]
    simp only [Option.map_some, Option.some.injEq]
    by_cases c1 : j < pos
    · rw [if_pos c1, if_pos (by omega)]
    · rw [if_neg c1]
      by_cases c2 : j < pos + (Utf8.decode s pos).2
      · rw [if_pos c2]
        unfold lowC
        rw [if_neg (by rw [e2]; exact key j (by omega) c2 hj)]
      · rw [if_neg c2]
  · rw [List.getElem?_eq_none (by rw [sz]; omega)]
    rfl
/-- A to Z becomes its small letter. -/
theorem lowTo_put (s : ByteArray) (pos : Nat) (h : pos < s.size) (hR : 65 ≤ (Utf8.decode s pos).1 ∧ (Utf8.decode s pos).1 ≤ 90) :
    (Utf8.decode s pos) = (bt s pos, 1) ∧ (lowTo s pos)[pos]? = some (s[pos]'h) ∧ lowTo s (pos + (Utf8.decode s pos).2) = (lowTo s pos).set pos (s[pos]'h + 32) ∧ (s[pos]'h + 32).toNat = (Utf8.decode s pos).1 + 32 ∧ (s[pos]'h).toNat = (Utf8.decode s pos).1 := by
  obtain ⟨e1, e2⟩ := bt_get s pos h
  rcases dec_shape s pos h with ⟨c, e⟩ | ⟨c, e⟩ | ⟨c, _, _, _, _, d, _⟩
  · have hb : 65 ≤ (s[pos]'h).toNat ∧ (s[pos]'h).toNat ≤ 90 := by rw [e] at hR; simp only at hR; omega
    refine ⟨e, by rw [lowTo_get, e1]; simp, ?_, by rw [low32 _ hb, e, e2], by rw [e, e2]⟩
    apply List.ext_getElem?
    intro j
    rw [e, List.getElem?_set, lowTo_get, lowTo_get]
    by_cases q : pos = j
    · subst q
      rw [if_pos rfl, if_pos (by rw [lowTo_length]; exact h), e1]
      simp only [Option.map_some, Option.some.injEq]
      rw [if_pos (by omega)]
      unfold lowC
      rw [if_pos hb]
    · rw [if_neg q]
      have : (j < pos + 1) = (j < pos) := propext ⟨fun _ => by omega, fun _ => by omega⟩
      simp only [this]
  · rw [e] at hR; simp only at hR; omega
  · omega

end Go.Proofs.YtcmefhnfdcngfaaDoor
/- Plain mathematics of the document's own way to part a text: bytes of a rune, then parts by bytes; that it is the program's. -/
namespace Go.Proofs.YtcmefhnfdcngfaaDoor
set_option linter.unusedVariables false

/-- how many bytes the rune at a place has by its first byte, and between which its second one must be. -/
def rN (c : Nat) : Nat := if 194 ≤ c ∧ c ≤ 223 then 2 else if 224 ≤ c ∧ c ≤ 239 then 3 else if 240 ≤ c ∧ c ≤ 244 then 4 else 0
def rLo (c : Nat) : Nat := if c = 224 then 160 else if c = 240 then 144 else 128
def rHi (c : Nat) : Nat := if c = 237 then 159 else if c = 244 then 143 else 191
/-- how many bytes the rune at a place has; 0: it is none. -/
def rlong (s : ByteArray) (i : Nat) : Nat :=
  if bt s i < 128 then 1
  else if rN (bt s i) = 0 ∨ s.size - i < rN (bt s i) ∨ bt s (i + 1) < rLo (bt s i) ∨ rHi (bt s i) < bt s (i + 1) then 0
  else if 3 ≤ rN (bt s i) ∧ (bt s (i + 2) < 128 ∨ 191 < bt s (i + 2)) then 0
  else if 4 ≤ rN (bt s i) ∧ (bt s (i + 3) < 128 ∨ 191 < bt s (i + 3)) then 0
  else rN (bt s i)

set_option maxRecDepth 100000 in
set_option maxHeartbeats 8000000 in
theorem rlong_decodeN (n b0 b1 b2 b3 : Nat) (hn : 1 ≤ n) (h0 : b0 < 256) (h1 : b1 < 256) (h2 : b2 < 256) (h3 : b3 < 256) (hb : 128 ≤ b0) :
    (if rN b0 = 0 ∨ n < rN b0 ∨ b1 < rLo b0 ∨ rHi b0 < b1 then 0
      else if 3 ≤ rN b0 ∧ (b2 < 128 ∨ 191 < b2) then 0
      else if 4 ≤ rN b0 ∧ (b3 < 128 ∨ 191 < b3) then 0
      else rN b0) = if Lib.decodeN n b0 b1 b2 b3 = (65533, 1) then 0 else (Lib.decodeN n b0 b1 b2 b3).2 := by
  by_cases c2 : 194 ≤ b0 ∧ b0 ≤ 223
  · rw [← Lib.slow_C2 n b0 b1 b2 b3 hn h1 h2 h3 (by omega)]
    have e1 : rN b0 = 2 := by unfold rN; rw [if_pos c2]
    have e2 : rLo b0 = 128 := by unfold rLo; rw [if_neg (by omega), if_neg (by omega)]
    have e3 : rHi b0 = 191 := by unfold rHi; rw [if_neg (by omega), if_neg (by omega)]
    rw [e1, e2, e3]
    unfold Lib.slowN
    repeat' split
    all_goals first | rfl | omega | (simp_all; done) | (simp_all; omega)
  · by_cases c3 : 224 ≤ b0 ∧ b0 ≤ 239
    · have e1 : rN b0 = 3 := by unfold rN; rw [if_neg c2, if_pos c3]
      rw [e1]
      have hq : ∃ lo hi, rLo b0 = lo ∧ rHi b0 = hi ∧ Lib.slowN n b0 b1 b2 b3 3 lo hi = Lib.decodeN n b0 b1 b2 b3 := by
        by_cases a : b0 = 224
        · exact ⟨160, 191, by unfold rLo; rw [if_pos a], by unfold rHi; rw [if_neg (by omega), if_neg (by omega)], Lib.slow_E0 n b0 b1 b2 b3 hn h1 h2 h3 a⟩
        · by_cases b : b0 = 237
          · exact ⟨128, 159, by unfold rLo; rw [if_neg (by omega), if_neg (by omega)], by unfold rHi; rw [if_pos b], Lib.slow_ED n b0 b1 b2 b3 hn h1 h2 h3 b⟩
          · exact ⟨128, 191, by unfold rLo; rw [if_neg (by omega), if_neg (by omega)], by unfold rHi; rw [if_neg (by omega), if_neg (by omega)], Lib.slow_E1 n b0 b1 b2 b3 hn h1 h2 h3 (by omega)⟩
      obtain ⟨lo, hi, e2, e3, e⟩ := hq
      rw [e2, e3, ← e]
      unfold Lib.slowN
      repeat' split
      all_goals first | rfl | omega | (simp_all; done) | (simp_all; omega)
    · by_cases c4 : 240 ≤ b0 ∧ b0 ≤ 244
      · have e1 : rN b0 = 4 := by unfold rN; rw [if_neg c2, if_neg c3, if_pos c4]
        rw [e1]
        have hq : ∃ lo hi, rLo b0 = lo ∧ rHi b0 = hi ∧ Lib.slowN n b0 b1 b2 b3 4 lo hi = Lib.decodeN n b0 b1 b2 b3 := by
          by_cases a : b0 = 240
          · exact ⟨144, 191, by unfold rLo; rw [if_neg (by omega), if_pos a], by unfold rHi; rw [if_neg (by omega), if_neg (by omega)], Lib.slow_F0 n b0 b1 b2 b3 hn h1 h2 h3 a⟩
          · by_cases b : b0 = 244
            · exact ⟨128, 143, by unfold rLo; rw [if_neg (by omega), if_neg (by omega)], by unfold rHi; rw [if_neg (by omega), if_pos b], Lib.slow_F4 n b0 b1 b2 b3 hn h1 h2 h3 b⟩
            · exact ⟨128, 191, by unfold rLo; rw [if_neg (by omega), if_neg (by omega)], by unfold rHi; rw [if_neg (by omega), if_neg (by omega)], Lib.slow_F1 n b0 b1 b2 b3 hn h1 h2 h3 (by omega)⟩
        obtain ⟨lo, hi, e2, e3, e⟩ := hq
        rw [e2, e3, ← e]
        unfold Lib.slowN
        repeat' split
        all_goals first | rfl | omega | (simp_all; done) | (simp_all; omega)
      · have e1 : rN b0 = 0 := by unfold rN; rw [if_neg c2, if_neg c3, if_neg c4]
        rw [if_pos (.inl e1)]
        have : Lib.decodeN n b0 b1 b2 b3 = (65533, 1) := by
          unfold Lib.decodeN
          repeat' split
          all_goals first | rfl | omega
        rw [if_pos this]

end Go.Proofs.YtcmefhnfdcngfaaDoor
