/- Plain mathematics: the document's way to part a text and the program's way give the same parts. -/
import Derived.Test.YtmlgfjkndnjocaaDoorWdRefq
namespace Go.Proofs.YtmlgfjkndnjocaaDoor
set_option linter.unusedVariables false

def blankN (c : Nat) : Bool := c == 32 || c == 9 || c == 10 || c == 13
def digitN (c : Nat) : Bool := decide (48 ≤ c) && decide (c ≤ 57)
def letterN (c : Nat) : Bool := (decide (97 ≤ c) && decide (c ≤ 122)) || (decide (65 ≤ c) && decide (c ≤ 90)) || c == 95 || decide (127 < c)
/-- which part a byte is of. -/
def bk (c : Nat) : Int := if blankN c then 0 else if digitN c then 1 else if letterN c then 2 else 3
theorem bk_blank (c : Nat) : blankN c = true ↔ bk c = 0 := by
  unfold bk; repeat' split
  all_goals simp_all
theorem bk_hi (c : Nat) (h : 128 ≤ c) : bk c = 2 := by
  unfold bk
  have a : blankN c = false := by simp [blankN]; omega
  have b : digitN c = false := by simp [digitN]; omega
  have d : letterN c = true := by simp [letterN]; omega
  simp [a, b, d]
/-- is a text not right there? -/
def badN (s : ByteArray) (i : Nat) : Bool := (rlong s i == 0) || (decide (bt s i < 32) && !blankN (bt s i)) || (bt s i == 127)

theorem rlong_eq (s : ByteArray) (i : Nat) (h : i < s.size) : rlong s i = if bt s i < 128 then 1 else if Utf8.decode s i = (65533, 1) then 0 else (Utf8.decode s i).2 := by
  unfold rlong
  by_cases c : bt s i < 128
  · rw [if_pos c, if_pos c]
  · rw [if_neg c, if_neg c]
    have e := Lib.decode_at s i
    change Utf8.decode s i = Lib.decodeN (s.size - i) (bt s i) (bt s (i + 1)) (bt s (i + 2)) (bt s (i + 3)) at e
    rw [e]
    exact rlong_decodeN _ _ _ _ _ (by omega) (UInt8.toNat_lt _) (UInt8.toNat_lt _) (UInt8.toNat_lt _) (UInt8.toNat_lt _) (by omega)

theorem kindW_lo (c : Nat) (h : c < 128) : kindW (c : Int) 1 = if (decide (c < 32) && !blankN c) || c == 127 then -1 else bk c := by
  unfold kindW bk blankN digitN letterN
  repeat' split
  all_goals (try simp_all)
  all_goals omega

/-- not right by the document just if not right by the program; else of the same kind, and as long. -/
theorem bad_kind (s : ByteArray) (i : Nat) (h : i < s.size) : (badN s i = true ↔ kindP s i = -1) ∧ (badN s i = false → kindP s i = bk (bt s i) ∧ rlong s i = (Utf8.decode s i).2) := by
  have hr := rlong_eq s i h
  unfold badN kindP
  rcases dec_shape s i h with ⟨c, e⟩ | ⟨c, e⟩ | ⟨c, d1, d2, d3, d4, d5, d6⟩
  · rw [if_pos c] at hr
    rw [hr, e]
    have hk := kindW_lo (bt s i) c
    have hb : bk (bt s i) ≠ -1 := by unfold bk; repeat' split
                                     all_goals decide
    dsimp only
    rw [hk]
    constructor
    · constructor
      · intro q
        rw [if_pos (by simpa using q)]
      · intro q
        split at q
        · rename_i z; simpa using z
        · exact absurd q hb
    · intro q
      rw [if_neg (by simpa using q)]
      exact ⟨rfl, rfl⟩
  · rw [if_neg (by omega), if_pos e] at hr
    rw [hr, e]
    constructor
    · simp [kindW]
    · intro q; simp at q
  · rw [if_neg (by omega), if_neg (fun q => by rw [q] at d1; simp at d1)] at hr
    rw [hr, bk_hi _ c]
    have f1 : ((Utf8.decode s i).2 == 0) = false := by simp; omega
    have f2 : (decide (bt s i < 32)) = false := by simp; omega
    have f3 : (bt s i == 127) = false := by simp; omega
    rw [f1, f2, f3]
    have k2 : kindW ((Utf8.decode s i).1 : Int) (Utf8.decode s i).2 = 2 := by
      unfold kindW
      rw [if_neg (by omega), if_neg (by omega), if_neg (by omega)]
      split
      · rw [if_neg (by omega)]
      · rw [if_pos (by omega)]
    rw [k2]
    exact ⟨by simp, fun _ => ⟨rfl, rfl⟩⟩

end Go.Proofs.YtmlgfjkndnjocaaDoor
