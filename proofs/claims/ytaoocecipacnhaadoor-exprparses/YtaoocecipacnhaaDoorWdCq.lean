/- Contract of word.kindAt: which part a rune is of. -/
import Derived.Test.YtaoocecipacnhaaDoorWdBq
namespace Go.Proofs.YtaoocecipacnhaaDoor
open Go.RowKit
set_option linter.unusedVariables false

/-- the two tables of Go's library. -/
abbrev Tabs (w : World) : Prop := Lib.Utf8Tabs 0 1 w
theorem Tabs_below {w w' : World} (h : Tabs w) (hb : Below w.heap.size w w') : Tabs w' := Utf8Tabs_below h hb
theorem go_tail (s : ByteArray) (pos : Nat) (h : pos < s.size) : Lib.decodeGo (s.extract pos s.size) = Utf8.decode s pos := by
  unfold Lib.decodeGo
  have hz : (s.extract pos s.size).size = s.size - pos := by rw [ByteArray.size_extract]; omega
  rw [if_neg (by omega)]
  have bt_tail : ∀ i, bt (s.extract pos s.size) i = bt s (pos + i) := by
    intro i
    by_cases hi : pos + i < s.size
    · unfold bt
      rw [get_lt _ i (by omega), get_lt s (pos + i) hi, ByteArray.getElem_extract]
    · rw [bt_beyond s _ hi, bt_beyond _ i (by omega)]
  have e1 := Lib.decode_at (s.extract pos s.size) 0
  have e2 := Lib.decode_at s pos
  change Utf8.decode (s.extract pos s.size) 0 = Lib.decodeN ((s.extract pos s.size).size - 0) (bt (s.extract pos s.size) 0) (bt (s.extract pos s.size) 1) (bt (s.extract pos s.size) 2) (bt (s.extract pos s.size) 3) at e1
  change Utf8.decode s pos = Lib.decodeN (s.size - pos) (bt s (pos + 0)) (bt s (pos + 1)) (bt s (pos + 2)) (bt s (pos + 3)) at e2
  rw [e1, e2, bt_tail, bt_tail, bt_tail, bt_tail, hz, Nat.sub_zero]
theorem kw_blank {R : Int} {wd : Nat} (h : R = 32 ∨ R = 9 ∨ R = 10 ∨ R = 13) : kindW R wd = 0 := by unfold kindW; rw [if_pos h]
theorem kw_wrong {R : Int} {wd : Nat} (h : ¬ (R = 32 ∨ R = 9 ∨ R = 10 ∨ R = 13)) (h1 : R < 32 ∨ R = 127) : kindW R wd = -1 := by unfold kindW; rw [if_neg h, if_pos h1]
theorem kw_digit {R : Int} {wd : Nat} (h : 48 ≤ R ∧ R ≤ 57) : kindW R wd = 1 := by unfold kindW; rw [if_neg (by omega), if_neg (by omega), if_pos h]
theorem kw_err {wd : Nat} : kindW 65533 wd = if wd = 1 then -1 else 2 := by unfold kindW; rw [if_neg (by omega), if_neg (by omega), if_neg (by omega), if_pos rfl]
theorem kw_letter {R : Int} {wd : Nat} (h : R ≠ 65533) (h1 : 127 < R ∨ R = 95 ∨ (97 ≤ R ∧ R ≤ 122) ∨ (65 ≤ R ∧ R ≤ 90)) : kindW R wd = 2 := by unfold kindW; rw [if_neg (by omega), if_neg (by omega), if_neg (by omega), if_neg h, if_pos h1]
theorem kw_sign {R : Int} {wd : Nat} (h : ¬ (R = 32 ∨ R = 9 ∨ R = 10 ∨ R = 13)) (h1 : ¬ (R < 32 ∨ R = 127)) (h2 : ¬ (48 ≤ R ∧ R ≤ 57)) (h3 : R ≠ 65533) (h4 : ¬ (127 < R ∨ R = 95 ∨ (97 ≤ R ∧ R ≤ 122) ∨ (65 ≤ R ∧ R ≤ 90))) : kindW R wd = 3 := by unfold kindW; rw [if_neg h, if_neg h1, if_neg h2, if_neg h3, if_neg h4]

set_option maxRecDepth 100000 in
set_option maxHeartbeats 4000000 in
theorem kindAt_rune (s : ByteArray) (pos : Nat) (R : Int) (wd : Nat) (hs : s.size ≤ maxLen) (hp : pos ≤ s.size) (r0 : 0 ≤ R) (r1 : R ≤ 2147483647) (h3 : R ≠ 65533) (w : World) :
    Calls Tryd.prog 43 #[.string s, .int .i64 (pos : Int), .int .i32 R] w fun e w' => e = .returned (.int .i64 (kindW R wd)) ∧ Below w.heap.size w w' := by
  unfold maxLen at hs
  by_cases hb : R = 32 ∨ R = 9 ∨ R = 10 ∨ R = 13
  · rw [kw_blank hb]
    rcases hb with rfl | rfl | rfl | rfl
    all_goals
      go_enter Tryd.func43, Tryd.ntmps43
      go_wp2_with fail
      go_ret
      exact ⟨rfl, Below.refl _ _⟩
  · have b1 : (R == 32) = false := by simp; omega
    have b2 : (R == 9) = false := by simp; omega
    have b3 : (R == 10) = false := by simp; omega
    have b4 : (R == 13) = false := by simp; omega
    have b5 : (R == 65533) = false := by simp; omega
    by_cases hw : R < 32 ∨ R = 127
    · rw [kw_wrong hb hw]
      rcases hw with h | rfl
      all_goals
        go_enter Tryd.func43, Tryd.ntmps43
        go_wp2_with fail
        go_ret
        exact ⟨rfl, Below.refl _ _⟩
    · have b6 : ¬ R < 32 := by omega
      have b7 : (R == 127) = false := by simp; omega
      by_cases hd : 48 ≤ R ∧ R ≤ 57
      · rw [kw_digit hd]
        obtain ⟨d1, d2⟩ := hd
        go_enter Tryd.func43, Tryd.ntmps43
        go_wp2_with fail
        go_ret
        exact ⟨rfl, Below.refl _ _⟩
      · by_cases hl : 127 < R ∨ R = 95 ∨ (97 ≤ R ∧ R ≤ 122) ∨ (65 ≤ R ∧ R ≤ 90)
        · rw [kw_letter h3 hl]
          have n57 : ¬ R ≤ 57 := by omega
          have n48 : 48 ≤ R := by omega
          clear hb hw hd
          by_cases c1 : 127 < R
          · go_enter Tryd.func43, Tryd.ntmps43
            go_wp2_with fail
            go_ret; exact ⟨rfl, Below.refl _ _⟩
          · by_cases c2 : R = 95
            · subst c2
              go_enter Tryd.func43, Tryd.ntmps43
              go_wp2_with fail
              go_ret; exact ⟨rfl, Below.refl _ _⟩
            · have c2' : (R == 95) = false := by simp; omega
              by_cases c3 : 97 ≤ R
              · have c4 : R ≤ 122 := by omega
                go_enter Tryd.func43, Tryd.ntmps43
                go_wp2_with fail
                go_ret; exact ⟨rfl, Below.refl _ _⟩
              · have c4 : 65 ≤ R := by omega
                have c5 : R ≤ 90 := by omega
                go_enter Tryd.func43, Tryd.ntmps43
                go_wp2_with fail
                go_ret; exact ⟨rfl, Below.refl _ _⟩
        · rw [kw_sign hb hw hd h3 hl]
          clear hb hw
          go_enter Tryd.func43, Tryd.ntmps43
          go_wp2_with fail
          all_goals first
            | (exfalso; omega)
            | (go_ret; exact ⟨rfl, Below.refl _ _⟩)

set_option maxRecDepth 100000 in
set_option maxHeartbeats 4000000 in
theorem kindAt_err (s : ByteArray) (pos wd : Nat) (hs : s.size ≤ maxLen) (hp : pos < s.size) (hd : Utf8.decode s pos = (65533, wd)) (hw : wd ≤ 4) (w : World) (hT : Tabs w) :
    Calls Tryd.prog 43 #[.string s, .int .i64 (pos : Int), .int .i32 65533] w fun e w' => e = .returned (.int .i64 (kindW 65533 wd)) ∧ Below w.heap.size w w' := by
  unfold maxLen at hs
  have HC : Hid (Calls Tryd.prog 62 #[.string (s.extract pos s.size)] w fun e w' => e = .returned (.tuple #[.int .i32 65533, .int .i64 (wd : Int)]) ∧ Below w.heap.size w w') := by
    have := Tryd.utf8_DecodeRuneInString (s.extract pos s.size) w hT
    rw [go_tail s pos hp, hd] at this
    exact this
  rw [kw_err]
  clear hd hT
  have hpi : (pos : Int) ≤ (s.size : Int) := by omega
  by_cases h1 : wd = 1
  · subst h1
    go_enter Tryd.func43, Tryd.ntmps43
    go_wp2_with fail
    refine HC.out.mono ?_
    rintro e w1 ⟨rfl, B1⟩
    go_wp2_with fail
    go_ret
    exact ⟨rfl, B1⟩
  · rw [if_neg h1]
    have h1' : ((wd : Int) == 1) = false := by simp; omega
    go_enter Tryd.func43, Tryd.ntmps43
    go_wp2_with fail
    refine HC.out.mono ?_
    rintro e w1 ⟨rfl, B1⟩
    go_wp2_with fail
    go_ret
    exact ⟨rfl, B1⟩

theorem kindAt_any (s : ByteArray) (pos : Nat) (hs : s.size ≤ maxLen) (hp : pos < s.size) (w : World) (hT : Tabs w) :
    Calls Tryd.prog 43 #[.string s, .int .i64 (pos : Int), .int .i32 ((Utf8.decode s pos).1 : Int)] w fun e w' => e = .returned (.int .i64 (kindP s pos)) ∧ Below w.heap.size w w' := by
  unfold kindP
  by_cases h : (Utf8.decode s pos).1 = 65533
  · have hw : (Utf8.decode s pos).2 ≤ 4 := by
      rcases dec_shape s pos hp with ⟨_, e⟩ | ⟨_, e⟩ | ⟨_, _, e, _⟩
      · rw [e]; simp
      · rw [e]; simp
      · exact e
    have := kindAt_err s pos (Utf8.decode s pos).2 hs hp (by rw [← h]) hw w hT
    rw [h]
    exact this
  · have := decode_le s pos
    exact kindAt_rune s pos _ _ hs (by omega) (by omega) (by omega) (by omega) w

end Go.Proofs.YtaoocecipacnhaaDoor
