/- Plain mathematics of a line's fields; what a byte is: contract of line.kindOf. -/
import Derived.Test.YtgnfkkcagbbhmaaGreatDoorDigLq
import Derived.Lib.OthersKept
import Derived.BigQuiet
import Derived.Deep.QuietTactic
namespace Go.Proofs.YtgnfkkcagbbhmaaGreatDoor.Lin
open Go.RowKit
set_option linter.unusedVariables false

/-- what a byte is, in quotes or not. -/
def kindN (c : Nat) (q : Bool) : Nat :=
  if c = 34 then 2 else if c = 13 ∧ q = true then 0 else if c = 32 ∨ c = 9 ∨ c = 13 then (if q = true then 4 else 1) else if c = 35 then (if q = true then 4 else 3) else if 32 < c ∧ c ≤ 126 then 4 else 0
/-- a line that is under way: its fields so far, the field that is begun, whether one is, within quotes, behind the mark. -/
structure LSt where
  out : List ByteArray
  fld : List UInt8
  bg : Bool
  qu : Bool
  lf : Bool
def fin (s : LSt) : List ByteArray := if s.bg = true then s.out ++ [⟨s.fld.toArray⟩] else s.out
def stp (s : LSt) (c : UInt8) : Option LSt :=
  if kindN c.toNat s.qu = 0 then none
  else if s.lf = true then some s
  else if kindN c.toNat s.qu = 4 then some { s with bg := true, fld := s.fld ++ [c] }
  else if kindN c.toNat s.qu = 2 then some { s with bg := true, qu := !s.qu }
  else if kindN c.toNat s.qu = 3 then some { s with lf := true }
  else some { s with out := fin s, bg := false, fld := [] }
def runL : List UInt8 → LSt → Option LSt
  | [], s => some s
  | c :: l, s => match stp s c with
    | none => none
    | some s' => runL l s'
def lst0 : LSt := ⟨[], [], false, false, false⟩
/-- a line's fields; none: it can not be. -/
def ends (s : LSt) : Option (List ByteArray) := if s.qu = true then none else some (fin s)
def oneR (o : Option LSt) : Option (List ByteArray) := match o with
  | none => none
  | some s => ends s
def oneL (t : List UInt8) : Option (List ByteArray) := oneR (runL t lst0)

theorem kind_high {c : Nat} (h : 127 ≤ c) (q : Bool) : kindN c q = 0 := by
  unfold kindN
  rw [if_neg (by omega), if_neg (by omega), if_neg (by omega), if_neg (by omega), if_neg (by omega)]
theorem kind_le (c : Nat) (q : Bool) : kindN c q ≤ 4 := by
  unfold kindN
  repeat' split
  all_goals omega
theorem runL_cons (c : UInt8) (l : List UInt8) (s : LSt) : runL (c :: l) s = match stp s c with | none => none | some s' => runL l s' := rfl
theorem run_none {c : UInt8} {l : List UInt8} {s : LSt} (h : kindN c.toNat s.qu = 0) : runL (c :: l) s = none := by
  rw [runL_cons]; unfold stp; rw [if_pos h]
theorem run_left {c : UInt8} {l : List UInt8} {s : LSt} (h : kindN c.toNat s.qu ≠ 0) (hl : s.lf = true) : runL (c :: l) s = runL l s := by
  rw [runL_cons]; unfold stp; rw [if_neg h, if_pos hl]
theorem run_plain {c : UInt8} {l : List UInt8} {s : LSt} (h : kindN c.toNat s.qu = 4) (hl : s.lf = false) : runL (c :: l) s = runL l ⟨s.out, s.fld ++ [c], true, s.qu, s.lf⟩ := by
  rw [runL_cons]; unfold stp; rw [if_neg (by omega), if_neg (by rw [hl]; decide), if_pos h]
theorem run_quote {c : UInt8} {l : List UInt8} {s : LSt} (h : kindN c.toNat s.qu = 2) (hl : s.lf = false) : runL (c :: l) s = runL l ⟨s.out, s.fld, true, !s.qu, s.lf⟩ := by
  rw [runL_cons]; unfold stp; rw [if_neg (by omega), if_neg (by rw [hl]; decide), if_neg (by omega), if_pos h]
theorem run_mark {c : UInt8} {l : List UInt8} {s : LSt} (h : kindN c.toNat s.qu = 3) (hl : s.lf = false) : runL (c :: l) s = runL l ⟨s.out, s.fld, s.bg, s.qu, true⟩ := by
  rw [runL_cons]; unfold stp; rw [if_neg (by omega), if_neg (by rw [hl]; decide), if_neg (by omega), if_neg (by omega), if_pos h]
theorem run_blank {c : UInt8} {l : List UInt8} {s : LSt} (h : kindN c.toNat s.qu = 1) (hl : s.lf = false) : runL (c :: l) s = runL l ⟨fin s, [], false, s.qu, s.lf⟩ := by
  rw [runL_cons]; unfold stp; rw [if_neg (by omega), if_neg (by rw [hl]; decide), if_neg (by omega), if_neg (by omega), if_neg (by omega)]
theorem drop_at {s : ByteArray} {k : Nat} (h : k < s.size) : ∃ c : UInt8, s.data.toList.drop k = c :: s.data.toList.drop (k + 1) ∧ (s[k]'h) = c := by
  have hl : k < s.data.toList.length := by simpa using h
  exact ⟨s.data.toList[k]'hl, List.drop_eq_getElem_cons hl, rfl⟩

set_option maxRecDepth 100000 in
set_option maxHeartbeats 2000000 in
theorem kindOf_any (R : Nat) (q : Bool) (w : World) :
    Calls Tryz.prog 76 #[.int .i32 (R : Int), .bool q] w fun e w' => e = .returned (.int .i64 (kindN R q : Int)) ∧ w' = w := by
  by_cases h1 : R = 34
  · have HE : Hid (kindN R q = 2) := by show _ = _; unfold kindN; rw [if_pos h1]
    subst h1
    rw [HE.out]
    go_enter Tryz.func76, Tryz.ntmps76
    go_wp2
    go_ret
    exact ⟨rfl, rfl⟩
  · have h1' : ((R : Int) == 34) = false := by rw [beq_eq_false_iff_ne]; omega
    by_cases h2 : R = 13
    · subst h2
      cases q
      · rw [show kindN 13 false = 1 from rfl]
        go_enter Tryz.func76, Tryz.ntmps76
        go_wp2
        go_ret
        exact ⟨rfl, rfl⟩
      · rw [show kindN 13 true = 0 from rfl]
        go_enter Tryz.func76, Tryz.ntmps76
        go_wp2
        go_ret
        exact ⟨rfl, rfl⟩
    · have h2' : ((R : Int) == 13) = false := by rw [beq_eq_false_iff_ne]; omega
      by_cases h3 : R = 32
      · subst h3
        cases q
        · rw [show kindN 32 false = 1 from rfl]
          go_enter Tryz.func76, Tryz.ntmps76
          go_wp2
          go_ret
          exact ⟨rfl, rfl⟩
        · rw [show kindN 32 true = 4 from rfl]
          go_enter Tryz.func76, Tryz.ntmps76
          go_wp2
          go_ret
          exact ⟨rfl, rfl⟩
      · have h3' : ((R : Int) == 32) = false := by rw [beq_eq_false_iff_ne]; omega
        by_cases h4 : R = 9
        · subst h4
          cases q
          · rw [show kindN 9 false = 1 from rfl]
            go_enter Tryz.func76, Tryz.ntmps76
            go_wp2
            go_ret
            exact ⟨rfl, rfl⟩
          · rw [show kindN 9 true = 4 from rfl]
            go_enter Tryz.func76, Tryz.ntmps76
            go_wp2
            go_ret
            exact ⟨rfl, rfl⟩
        · have h4' : ((R : Int) == 9) = false := by rw [beq_eq_false_iff_ne]; omega
          by_cases h5 : R = 35
          · subst h5
            cases q
            · rw [show kindN 35 false = 3 from rfl]
              go_enter Tryz.func76, Tryz.ntmps76
              go_wp2
              go_ret
              exact ⟨rfl, rfl⟩
            · rw [show kindN 35 true = 4 from rfl]
              go_enter Tryz.func76, Tryz.ntmps76
              go_wp2
              go_ret
              exact ⟨rfl, rfl⟩
          · have h5' : ((R : Int) == 35) = false := by rw [beq_eq_false_iff_ne]; omega
            by_cases h6 : 32 < R
            · have h6' : (32 : Int) < (R : Int) := by omega
              by_cases h7 : R ≤ 126
              · have h7' : (R : Int) ≤ 126 := by omega
                have e : kindN R q = 4 := by unfold kindN; rw [if_neg h1, if_neg (by omega), if_neg (by omega), if_neg h5, if_pos ⟨h6, h7⟩]
                rw [e]
                clear e h1 h2 h3 h4 h5 h6 h7
                go_enter Tryz.func76, Tryz.ntmps76
                go_wp2
                go_ret
                exact ⟨rfl, rfl⟩
              · have h7' : ¬ (R : Int) ≤ 126 := by omega
                have e : kindN R q = 0 := kind_high (by omega) q
                rw [e]
                clear e h1 h2 h3 h4 h5 h6 h7
                go_enter Tryz.func76, Tryz.ntmps76
                go_wp2
                go_ret
                exact ⟨rfl, rfl⟩
            · have h6' : ¬ (32 : Int) < (R : Int) := by omega
              have e : kindN R q = 0 := by unfold kindN; rw [if_neg h1, if_neg (by omega), if_neg (by omega), if_neg h5, if_neg (by omega)]
              rw [e]
              clear e h1 h2 h3 h4 h5 h6
              go_enter Tryz.func76, Tryz.ntmps76
              go_wp2
              go_ret
              exact ⟨rfl, rfl⟩

end Go.Proofs.YtgnfkkcagbbhmaaGreatDoor.Lin
