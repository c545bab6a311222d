/- Contracts of strings.Cut at one byte, and of dec.Read: a text as a number. -/
import Derived.Test.YtebjicnjbiiioaaDoorDecN
import Derived.Lib.IndexMore
namespace Go.Proofs.YtebjicnjbiiioaaDoor
open Go.RowKit
set_option linter.unusedVariables false

theorem index_lt (c : UInt8) : ∀ l : List UInt8, -1 ≤ Lib.indexByte l c ∧ Lib.indexByte l c < (l.length : Int) := by
  intro l
  induction l with
  | nil => exact ⟨Int.le_refl _, by show (-1 : Int) < 0; decide⟩
  | cons b l ih =>
    unfold Lib.indexByte
    simp only [List.length_cons]
    split
    · omega
    · split
      · omega
      · omega

set_option maxRecDepth 100000 in
set_option maxHeartbeats 1000000 in
theorem scut_yes (s : ByteArray) (c : UInt8) (i : Nat) (hs : s.size ≤ 9223372036854775807) (hi : Lib.indexByte s.data.toList c = (i : Int)) (hl : i < s.size) (w : World) :
    Calls Tryd.prog 56 #[.string s, .string ⟨#[c]⟩] w fun e w' => e = .returned (.tuple #[.string (s.extract 0 i), .string (s.extract (i + 1) s.size), .bool true]) ∧ Below w.heap.size w w' := by
  have H1 : Hid (∀ w : World, Calls Tryd.prog 77 #[.string s, .string ⟨#[c]⟩] w fun e w' => e = .returned (.int .i64 (i : Int)) ∧ w' = w) := fun w => by rw [← hi]; exact Tryd.stringslite_Index_one s c w
  clear hi
  have c1 : (0 : Int) ≤ ↑i := by omega
  have c2 : (↑i : Int) ≤ ↑s.size := by omega
  have c3 : (0 : Int) ≤ ↑i + 1 := by omega
  have c4 : (↑i + 1 : Int) ≤ ↑s.size := by omega
  go_enter Tryd.func56, Tryd.ntmps56
  go_wp2_with fail
  refine (H1.out _).mono ?_
  rintro e w1 ⟨rfl, rfl⟩
  go_wp2_with fail
  go_quiet (fail)
  go_wp2
  go_ret3
  exact ⟨rfl, below_drewN (Below.refl _ _) nq⟩

set_option maxRecDepth 100000 in
set_option maxHeartbeats 1000000 in
theorem scut_no (s : ByteArray) (c : UInt8) (hi : Lib.indexByte s.data.toList c = -1) (w : World) :
    Calls Tryd.prog 56 #[.string s, .string ⟨#[c]⟩] w fun e w' => e = .returned (.tuple #[.string s, .string ⟨#[]⟩, .bool false]) ∧ w' = w := by
  have H1 : Hid (∀ w : World, Calls Tryd.prog 77 #[.string s, .string ⟨#[c]⟩] w fun e w' => e = .returned (.int .i64 (-1)) ∧ w' = w) := fun w => by rw [← hi]; exact Tryd.stringslite_Index_one s c w
  clear hi
  go_enter Tryd.func56, Tryd.ntmps56
  go_wp2_with fail
  refine (H1.out _).mono ?_
  rintro e w1 ⟨rfl, rfl⟩
  go_wp2_with fail
  go_ret3
  exact ⟨rfl, rfl⟩

/-- a text's part ahead of the first point, what is behind it, and whether there is one. -/
def cutA (s : ByteArray) : ByteArray := if Lib.indexByte s.data.toList 46 = -1 then s else s.extract 0 (Lib.indexByte s.data.toList 46).toNat
def cutB (s : ByteArray) : ByteArray := if Lib.indexByte s.data.toList 46 = -1 then ⟨#[]⟩ else s.extract ((Lib.indexByte s.data.toList 46).toNat + 1) s.size
def cutF (s : ByteArray) : Bool := decide (Lib.indexByte s.data.toList 46 ≠ -1)

theorem scut_any (s : ByteArray) (hs : s.size ≤ 9223372036854775807) (w : World) :
    Calls Tryd.prog 56 #[.string s, .string ⟨#[46]⟩] w fun e w' => e = .returned (.tuple #[.string (cutA s), .string (cutB s), .bool (cutF s)]) ∧ Below w.heap.size w w' := by
  obtain ⟨i1, i2⟩ := index_lt 46 s.data.toList
  have hl : s.data.toList.length = s.size := by simp
  unfold cutA cutB cutF
  by_cases h : Lib.indexByte s.data.toList 46 = -1
  · rw [if_pos h, if_pos h, decide_eq_false (fun k => k h)]
    exact (scut_no s 46 h w).mono fun e w' ⟨he, hw⟩ => ⟨he, hw ▸ Below.refl _ _⟩
  · rw [if_neg h, if_neg h, decide_eq_true h]
    exact scut_yes s 46 _ hs (by omega) (by omega) w

set_option maxRecDepth 100000 in
set_option maxHeartbeats 1000000 in
theorem cut_any (s : ByteArray) (hs : s.size ≤ 9223372036854775807) (w : World) :
    Calls Tryd.prog 30 #[.string s, .string ⟨#[46]⟩] w fun e w' => e = .returned (.tuple #[.string (cutA s), .string (cutB s), .bool (cutF s)]) ∧ Below w.heap.size w w' := by
  have H : Hid (∀ w : World, Calls Tryd.prog 56 #[.string s, .string ⟨#[46]⟩] w fun e w' => e = .returned (.tuple #[.string (cutA s), .string (cutB s), .bool (cutF s)]) ∧ Below w.heap.size w w') := scut_any s hs
  generalize cutA s = A at *
  generalize cutB s = B at *
  generalize cutF s = F at *
  go_enter Tryd.func30, Tryd.ntmps30
  go_wp2_with fail
  refine (H.out _).mono ?_
  rintro e w1 ⟨rfl, hb⟩
  go_wp2
  go_ret3
  exact ⟨rfl, hb⟩

end Go.Proofs.YtebjicnjbiiioaaDoor
