/- Plain mathematics of the document's own way to part a text: bytes of a rune, then parts by bytes; that it is the program's. -/
import Derived.Test.YtaoocecipacnhaaDoorWdLowq
namespace Go.Proofs.YtaoocecipacnhaaDoor
set_option linter.unusedVariables false

/-- how many bytes the rune at a place has by its first byte, and between which its second one must be. -/
def rN (c : Nat) : Nat := if 194 ≤ c ∧ c ≤ 223 then 2 else if 224 ≤ c ∧ c ≤ 239 then 3 else if 240 ≤ c ∧ c ≤ 244 then 4 else 0
def rLo (c : Nat) : Nat := if c = 224 then 160 else if c = 240 then 144 else 128
def rHi (c : Nat) : Nat := if c = 237 then 159 else if c = 244 then 143 else 191
/-- how many bytes the rune at a place has; 0: it is none. -/
def rlong (s : ByteArray) (i : Nat) : Nat :=
  if bt s i < 128 then 1
  else if rN (bt s i) = 0 ∨ s.size - i < rN (bt s i) ∨ bt s (i + 1) < rLo (bt s i) ∨ rHi (bt s i) < bt s (i + 1) then 0
  else if 3 ≤ rN (bt s i) ∧ (bt s (i + 2) < 128 ∨ 191 < bt s (i + 2)) then 0
  else if 4 ≤ rN (bt s i) ∧ (bt s (i + 3) < 128 ∨ 191 < bt s (i + 3)) then 0
  else rN (bt s i)

set_option maxRecDepth 100000 in
set_option maxHeartbeats 8000000 in
theorem rlong_decodeN (n b0 b1 b2 b3 : Nat) (hn : 1 ≤ n) (h0 : b0 < 256) (h1 : b1 < 256) (h2 : b2 < 256) (h3 : b3 < 256) (hb : 128 ≤ b0) :
    (if rN b0 = 0 ∨ n < rN b0 ∨ b1 < rLo b0 ∨ rHi b0 < b1 then 0
      else if 3 ≤ rN b0 ∧ (b2 < 128 ∨ 191 < b2) then 0
      else if 4 ≤ rN b0 ∧ (b3 < 128 ∨ 191 < b3) then 0
      else rN b0) = if Lib.decodeN n b0 b1 b2 b3 = (65533, 1) then 0 else (Lib.decodeN n b0 b1 b2 b3).2 := by
  by_cases c2 : 194 ≤ b0 ∧ b0 ≤ 223
  · rw [← Lib.slow_C2 n b0 b1 b2 b3 hn h1 h2 h3 (by omega)]
    have e1 : rN b0 = 2 := by unfold rN; rw [if_pos c2]
    have e2 : rLo b0 = 128 := by unfold rLo; rw [if_neg (by omega), if_neg (by omega)]
    have e3 : rHi b0 = 191 := by unfold rHi; rw [if_neg (by omega), if_neg (by omega)]
    rw [e1, e2, e3]
    unfold Lib.slowN
    repeat' split
    all_goals first | rfl | omega | (simp_all; done) | (simp_all; omega)
  · by_cases c3 : 224 ≤ b0 ∧ b0 ≤ 239
    · have e1 : rN b0 = 3 := by unfold rN; rw [if_neg c2, if_pos c3]
      rw [e1]
      have hq : ∃ lo hi, rLo b0 = lo ∧ rHi b0 = hi ∧ Lib.slowN n b0 b1 b2 b3 3 lo hi = Lib.decodeN n b0 b1 b2 b3 := by
        by_cases a : b0 = 224
        · exact ⟨160, 191, by unfold rLo; rw [if_pos a], by unfold rHi; rw [if_neg (by omega), if_neg (by omega)], Lib.slow_E0 n b0 b1 b2 b3 hn h1 h2 h3 a⟩
        · by_cases b : b0 = 237
          · exact ⟨128, 159, by unfold rLo; rw [if_neg (by omega), if_neg (by omega)], by unfold rHi; rw [if_pos b], Lib.slow_ED n b0 b1 b2 b3 hn h1 h2 h3 b⟩
          · exact ⟨128, 191, by unfold rLo; rw [if_neg (by omega), if_neg (by omega)], by unfold rHi; rw [if_neg (by omega), if_neg (by omega)], Lib.slow_E1 n b0 b1 b2 b3 hn h1 h2 h3 (by omega)⟩
      obtain ⟨lo, hi, e2, e3, e⟩ := hq
      rw [e2, e3, ← e]
      unfold Lib.slowN
      repeat' split
      all_goals first | rfl | omega | (simp_all; done) | (simp_all; omega)
    · by_cases c4 : 240 ≤ b0 ∧ b0 ≤ 244
      · have e1 : rN b0 = 4 := by unfold rN; rw [if_neg c2, if_neg c3, if_pos c4]
        rw [e1]
        have hq : ∃ lo hi, rLo b0 = lo ∧ rHi b0 = hi ∧ Lib.slowN n b0 b1 b2 b3 4 lo hi = Lib.decodeN n b0 b1 b2 b3 := by
          by_cases a : b0 = 240
          · exact ⟨144, 191, by unfold rLo; rw [if_neg (by omega), if_pos a], by unfold rHi; rw [if_neg (by omega), if_neg (by omega)], Lib.slow_F0 n b0 b1 b2 b3 hn h1 h2 h3 a⟩
          · by_cases b : b0 = 244
            · exact ⟨128, 143, by unfold rLo; rw [if_neg (by omega), if_neg (by omega)], by unfold rHi; rw [if_neg (by omega), if_pos b], Lib.slow_F4 n b0 b1 b2 b3 hn h1 h2 h3 b⟩
            · exact ⟨128, 191, by unfold rLo; rw [if_neg (by omega), if_neg (by omega)], by unfold rHi; rw [if_neg (by omega), if_neg (by omega)], Lib.slow_F1 n b0 b1 b2 b3 hn h1 h2 h3 (by omega)⟩
        obtain ⟨lo, hi, e2, e3, e⟩ := hq
        rw [e2, e3, ← e]
        unfold Lib.slowN
        repeat' split
        all_goals first | rfl | omega | (simp_all; done) | (simp_all; omega)
      · have e1 : rN b0 = 0 := by unfold rN; rw [if_neg c2, if_neg c3, if_neg c4]
        rw [if_pos (.inl e1)]
        have : Lib.decodeN n b0 b1 b2 b3 = (65533, 1) := by
          unfold Lib.decodeN
          repeat' split
          all_goals first | rfl | omega
        rw [if_pos this]

end Go.Proofs.YtaoocecipacnhaaDoor
