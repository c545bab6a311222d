/- Contracts of dec.areDigits and dec.number: texts of digits, and what they tell. -/
import Derived.Test.YtebjicnjbiiioaaDoorDecF
import Derived.Test.YtebjicnjbiiioaaDoorShelf
import Derived.Deep.LoopGhost
import Derived.Lib.OthersKept
import Derived.Lib.AppendIntMem
namespace Go.Proofs.YtebjicnjbiiioaaDoor
open Go.RowKit
set_option linter.unusedVariables false

/-- is a byte a digit? -/
def isD (c : UInt8) : Bool := decide (48 ≤ c.toNat ∧ c.toNat ≤ 57)
/-- the byte at a place, 0 behind the end. -/
def byteAt (s : ByteArray) (i : Nat) : Nat := (s.data.toList.getD i 0).toNat
theorem byteAt_lt (s : ByteArray) (i : Nat) (h : i < s.size) : (s[i]'h).toNat = byteAt s i := by
  unfold byteAt
  rw [List.getD_eq_getElem?_getD, List.getElem?_eq_getElem (by simpa using h)]
  rfl
/-- are all bytes digits? -/
def allD (s : ByteArray) : Bool := s.data.toList.all isD
theorem allD_step {s : ByteArray} {i : Nat} (hi : i < s.size) (h : (s.data.toList.take i).all isD = true) (hd : 48 ≤ byteAt s i ∧ byteAt s i ≤ 57) : (s.data.toList.take (i + 1)).all isD = true := by
  have hl : i < s.data.toList.length := by simpa using hi
  rw [List.take_add_one, List.all_append, h, List.getElem?_eq_getElem hl]
  have e : byteAt s i = (s.data.toList[i]'hl).toNat := by unfold byteAt; rw [List.getD_eq_getElem?_getD, List.getElem?_eq_getElem hl]; rfl
  rw [e] at hd
  have hq : isD (s.data.toList[i]'hl) = true := decide_eq_true hd
  simp only [Option.toList_some, List.all_cons, List.all_nil, hq, Bool.and_self]
theorem allD_no {s : ByteArray} {i : Nat} (hi : i < s.size) (hd : ¬ (48 ≤ byteAt s i ∧ byteAt s i ≤ 57)) : allD s = false := by
  have hl : i < s.data.toList.length := by simpa using hi
  have e : byteAt s i = (s.data.toList[i]'hl).toNat := by unfold byteAt; rw [List.getD_eq_getElem?_getD, List.getElem?_eq_getElem hl]; rfl
  rw [e] at hd
  unfold allD
  rw [List.all_eq_false]
  exact ⟨_, List.getElem_mem hl, by unfold isD; rw [decide_eq_false hd]; decide⟩
theorem allD_end {s : ByteArray} {i : Nat} (hi : ¬ i < s.size) (h : (s.data.toList.take i).all isD = true) : allD s = true := by
  unfold allD
  rw [List.take_of_length_le (by simp; omega)] at h
  exact h

/-- digits, one at least? -/
def areD (s : ByteArray) : Bool := allD s && !s.toList.isEmpty

set_option maxRecDepth 1000000 in
set_option maxHeartbeats 1000000 in
theorem areDigits_any (s : ByteArray) (w : World) :
    Calls Tryd.prog 31 #[.string s] w fun e w' => e = .returned (.bool (areD s)) ∧ Below w.heap.size w w' := by
  go_enter Tryd.func31, Tryd.ntmps31
  go_wp2
  go_loopw [] (fun w' => ∃ pos : Nat, w' = w.iter s pos ∧ (s.data.toList.take pos).all isD = true) (fun w' => s.size - w'.iterPos w.heap.size)
  case atStart => exact ⟨0, rfl, by simp⟩
  case round =>
    obtain ⟨pos, rfl, hd⟩ := hrel
    by_cases hp : pos < s.size
    · by_cases hb : 48 ≤ byteAt s pos ∧ byteAt s pos ≤ 57
      · have ha : (s[pos]'hp).toNat < 128 := by rw [byteAt_lt]; omega
        have hnx : ∀ ty, (Instr.next (.pointer (some ⟨w.heap.size, 0, none⟩)) true ty).run Tryd.prog (w.iter s pos) = _ := fun ty => run_next_ascii w s pos ty hp ha
        rw [byteAt_lt] at hnx
        obtain ⟨b1, b2⟩ := hb
        have HD : Hid ((s.data.toList.take (pos + 1)).all isD = true) := allD_step hp hd ⟨b1, b2⟩
        generalize byteAt s pos = B at *
        have c1 : (48 : Int) ≤ (B : Int) := by omega
        have c2 : (B : Int) ≤ 57 := by omega
        go_wp2
        go_roundw
        case rel => exact ⟨pos + 1, rfl, HD.out⟩
        case measure => simp; omega
      · have HN : Hid (areD s = false) := by show _ = _; unfold areD; rw [allD_no hp hb]; rfl
        have hr : ((Utf8.decode s pos).1 : Int) < 48 ∨ 57 < ((Utf8.decode s pos).1 : Int) := by
          by_cases ha : (s[pos]'hp).toNat < 128
          · rw [decode_ascii s pos hp ha, byteAt_lt]; simp only; omega
          · have := (decode_high s pos hp (by omega)).1; omega
        have hnx : ∀ ty, (Instr.next (.pointer (some ⟨w.heap.size, 0, none⟩)) true ty).run Tryd.prog (w.iter s pos) = _ := fun ty => run_next_any w s pos ty hp
        generalize ((Utf8.decode s pos).1 : Int) = R at *
        clear hb
        rcases hr with hr | hr
        all_goals
          go_wp2
          go_ret
          exact ⟨ret_bool HN.out.symm, (Below.refl _ _).alloc (Nat.le_refl _) _⟩
    · have hnx : ∀ ty, (Instr.next (.pointer (some ⟨w.heap.size, 0, none⟩)) true ty).run Tryd.prog (w.iter s pos) = _ := fun ty => run_next_end w s pos ty hp
      have HN : Hid (areD s = !s.toList.isEmpty) := by show _ = _; unfold areD; rw [allD_end hp hd]; rfl
      go_wp2
      go_ret
      exact ⟨ret_bool HN.out.symm, (Below.refl _ _).alloc (Nat.le_refl _) _⟩

end Go.Proofs.YtebjicnjbiiioaaDoor
