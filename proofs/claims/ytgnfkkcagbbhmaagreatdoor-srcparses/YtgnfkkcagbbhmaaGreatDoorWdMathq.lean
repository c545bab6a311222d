/- Plain mathematics of the parts of a text: which part a rune is of, and what comes of a text rune by rune. -/
import Derived.Lib.MapLaws
import Derived.Laws.RangeAny
namespace Go.Proofs.YtgnfkkcagbbhmaaGreatDoor.Wrd
set_option linter.unusedVariables false

/-- the byte at a place. -/
def bt (s : ByteArray) (i : Nat) : Nat := (s.get! i).toNat

/-- a rune is one byte; or broken; or two to four bytes, all of them above 127. -/
theorem dec_shape (s : ByteArray) (pos : Nat) (h : pos < s.size) :
    (bt s pos < 128 ∧ Utf8.decode s pos = (bt s pos, 1)) ∨
    (128 ≤ bt s pos ∧ Utf8.decode s pos = (65533, 1)) ∨
    (128 ≤ bt s pos ∧ 2 ≤ (Utf8.decode s pos).2 ∧ (Utf8.decode s pos).2 ≤ 4 ∧ pos + (Utf8.decode s pos).2 ≤ s.size ∧ 128 ≤ (Utf8.decode s pos).1 ∧
      (∀ j, 1 ≤ j → j < (Utf8.decode s pos).2 → 128 ≤ bt s (pos + j)) ∧ Lib.runeLen ((Utf8.decode s pos).1 : Int) = ((Utf8.decode s pos).2 : Int)) := by
  have h0 : bt s pos < 256 := UInt8.toNat_lt _
  have h1 : bt s (pos + 1) < 256 := UInt8.toNat_lt _
  have h2 : bt s (pos + 2) < 256 := UInt8.toNat_lt _
  have h3 : bt s (pos + 3) < 256 := UInt8.toNat_lt _
  have e := Lib.decode_at s pos
  change Utf8.decode s pos = Lib.decodeN (s.size - pos) (bt s pos) (bt s (pos + 1)) (bt s (pos + 2)) (bt s (pos + 3)) at e
  rcases Lib.decodeN_shape (s.size - pos) (bt s pos) (bt s (pos + 1)) (bt s (pos + 2)) (bt s (pos + 3)) with ⟨c, q⟩ | ⟨c1, c2, c3, cv, q⟩ | ⟨c1, c2, c3, c4, cv, cs, q⟩ | ⟨c1, c2, c3, c4, c5, cv, cw, q⟩ | q
  · exact .inl ⟨c, e.trans q⟩
  · rw [e, q]
    refine .inr (.inr ⟨by omega, by simp, by simp, by simp; omega, by simp; omega, ?_, ?_⟩)
    · intro j a b
      obtain rfl : j = 1 := by simp at b; omega
      omega
    · unfold Lib.runeLen; dsimp only; repeat' split
      all_goals omega
  · rw [e, q]
    refine .inr (.inr ⟨by omega, by simp, by simp, by simp; omega, by simp; omega, ?_, ?_⟩)
    · intro j a b
      have : j = 1 ∨ j = 2 := by simp at b; omega
      rcases this with rfl | rfl <;> omega
    · unfold Lib.runeLen; dsimp only; repeat' split
      all_goals omega
  · rw [e, q]
    refine .inr (.inr ⟨by omega, by simp, by simp, by simp; omega, by simp; omega, ?_, ?_⟩)
    · intro j a b
      have : j = 1 ∨ j = 2 ∨ j = 3 := by simp at b; omega
      rcases this with rfl | rfl | rfl <;> omega
    · unfold Lib.runeLen; dsimp only; repeat' split
      all_goals omega
  · by_cases c : bt s pos < 128
    · refine .inl ⟨c, ?_⟩
      rw [e]; unfold Lib.decodeN; rw [if_pos c]
    · exact .inr (.inl ⟨by omega, e.trans q⟩)

/-- which part a rune of so many bytes is of: 0 none, -1 of no text that is right. -/
def kindW (R : Int) (wd : Nat) : Int :=
  if R = 32 ∨ R = 9 ∨ R = 10 ∨ R = 13 then 0
  else if R < 32 ∨ R = 127 then -1
  else if 48 ≤ R ∧ R ≤ 57 then 1
  else if R = 65533 then (if wd = 1 then -1 else 2)
  else if 127 < R ∨ R = 95 ∨ (97 ≤ R ∧ R ≤ 122) ∨ (65 ≤ R ∧ R ≤ 90) then 2
  else 3
/-- the same at a place of a text. -/
def kindP (s : ByteArray) (pos : Nat) : Int := kindW ((Utf8.decode s pos).1 : Int) (Utf8.decode s pos).2

theorem wd_pos (s : ByteArray) (pos : Nat) : 1 ≤ (Utf8.decode s pos).2 := Lib.width_pos s pos
theorem wd_le (s : ByteArray) (pos : Nat) (h : pos < s.size) : pos + (Utf8.decode s pos).2 ≤ s.size := by
  rcases dec_shape s pos h with ⟨_, e⟩ | ⟨_, e⟩ | ⟨_, _, _, e, _⟩
  · rw [e]; simp only; omega
  · rw [e]; simp only; omega
  · exact e
/-- a part: its kind, its first place, the place behind it. -/
abbrev Prt := Int × Nat × Nat

/-- what comes of a text, from a place on: the place where it is not right, or all parts. -/
def splitF (s : ByteArray) : Nat → Nat → List Prt → Int → Sum Nat (List Prt)
  | 0, _, l, _ => .inr l
  | f + 1, pos, l, a =>
    if pos < s.size then
      if kindP s pos = -1 then .inl pos
      else if kindP s pos = 0 then splitF s f (pos + (Utf8.decode s pos).2) l 0
      else if kindP s pos = 3 ∨ kindP s pos ≠ a then splitF s f (pos + (Utf8.decode s pos).2) (l ++ [(kindP s pos, pos, pos + (Utf8.decode s pos).2)]) (kindP s pos)
      else splitF s f (pos + (Utf8.decode s pos).2) (l.dropLast ++ [((l.getLast?.getD (0, 0, 0)).1, (l.getLast?.getD (0, 0, 0)).2.1, pos + (Utf8.decode s pos).2)]) (kindP s pos)
    else .inr l
/-- the whole of it. -/
def splitB (s : ByteArray) : Sum Nat (List Prt) := splitF s s.size 0 [] 0

end Go.Proofs.YtgnfkkcagbbhmaaGreatDoor.Wrd
