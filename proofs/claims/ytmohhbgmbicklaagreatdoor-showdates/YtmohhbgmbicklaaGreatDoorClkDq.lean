/- Contracts of clock.Fraction, clock.face, clock.Text, clock.Long, clock.Offset. -/
import Derived.Test.YtmohhbgmbicklaaGreatDoorClkCq
import Derived.Lib.TrimByte
namespace Go.Proofs.YtmohhbgmbicklaaGreatDoor.Clk
open Go.RowKit
set_option linter.unusedVariables false

/-- what stands behind the seconds. -/
def fracS (us : Int) : ByteArray := (⟨(Lib.itoa (1000000 + us)).toArray⟩ : ByteArray).extract 1 (⟨(Lib.itoa (1000000 + us)).toArray⟩ : ByteArray).size
def fracT (us : Int) : ByteArray := ⟨(Lib.trimRightB (fracS us).data.toList 48).toArray⟩
def fracB (us : Int) : ByteArray := if 1 ≤ us ∧ us ≤ 999999 then ⟨#[46]⟩ ++ fracT us else ⟨#[]⟩

theorem itoa7 {us : Int} (h1 : 1 ≤ us) (h2 : us ≤ 999999) : (⟨(Lib.itoa (1000000 + us)).toArray⟩ : ByteArray).size = 7 := by
  have e : (⟨(Lib.itoa (1000000 + us)).toArray⟩ : ByteArray).size = (Lib.itoa (1000000 + us)).length := rfl
  rw [e]
  unfold Lib.itoa
  rw [if_neg (by omega), Lib.decDigits_length]
  exact Lib.nDigits_unique 6 _ (by simp; omega) (by simp; omega)
theorem fracS_size {us : Int} (h1 : 1 ≤ us) (h2 : us ≤ 999999) : (fracS us).size = 6 := by
  unfold fracS
  rw [itoa7 h1 h2, ByteArray.size_extract, itoa7 h1 h2]; rfl
theorem trim_len (c : UInt8) (l : List UInt8) : (Lib.trimRightB l c).length ≤ l.length := by
  unfold Lib.trimRightB
  rw [List.length_reverse]
  exact Nat.le_trans (List.dropWhile_sublist _).length_le (by rw [List.length_reverse]; exact Nat.le_refl _)
theorem fracT_size {us : Int} (h1 : 1 ≤ us) (h2 : us ≤ 999999) : (fracT us).size ≤ 6 := by
  have e : (fracT us).size = (Lib.trimRightB (fracS us).data.toList 48).length := rfl
  have f : (fracS us).data.toList.length = (fracS us).size := by simp
  rw [e]
  have := trim_len 48 (fracS us).data.toList
  rw [f, fracS_size h1 h2] at this
  exact this
theorem fracB_size (us : Int) : (fracB us).size ≤ 7 := by
  unfold fracB
  split
  · rename_i h
    have := fracT_size h.1 h.2
    rw [ByteArray.size_append]; show 1 + (fracT us).size ≤ 7; omega
  · exact Nat.zero_le _

set_option maxRecDepth 100000 in
set_option maxHeartbeats 1000000 in
theorem frac_no (us : Int) (h : us < 1 ∨ 1000000 ≤ us) (w : World) :
    Calls Tryz.prog 62 #[.int .i64 us] w fun e w' => e = .returned (.string ⟨#[]⟩) ∧ Below w.heap.size w w' := by
  rcases h with h | h
  · go_enter Tryz.func62, Tryz.ntmps62
    go_wp2
    go_ret
    exact ⟨rfl, Below.refl _ _⟩
  · have h2 : ¬ us < 1 := by omega
    go_enter Tryz.func62, Tryz.ntmps62
    go_wp2
    go_ret
    exact ⟨rfl, Below.refl _ _⟩

set_option maxRecDepth 100000 in
set_option maxHeartbeats 1000000 in
theorem frac_core (us : Int) (S T : ByteArray) (h1 : 1 ≤ us) (h2 : us ≤ 999999) (hS : S.size = 7) (hT6 : T.size ≤ 6)
    (H1 : Hid (∀ w : World, Tab w → Calls Tryz.prog 71 #[.int .i64 (1000000 + us), .int .i64 10] w fun e w' => e = .returned (.string S) ∧ Below w.heap.size w w'))
    (H2 : Hid (∀ w : World, Calls Tryz.prog 84 #[.string (S.extract 1 S.size), .string ⟨#[48]⟩] w fun e w' => e = .returned (.string T) ∧ w' = w))
    (w : World) (hT : Hid (Tab w)) :
    Calls Tryz.prog 62 #[.int .i64 us] w fun e w' => e = .returned (.string (⟨#[46]⟩ ++ T)) ∧ Below w.heap.size w w' := by
  have h3 : ¬ us < 1 := by omega
  have h4 : ¬ 1000000 ≤ us := by omega
  rw [hS] at H2
  go_enter Tryz.func62, Tryz.ntmps62
  go_wp2_with fail
  refine (H1.out _ hT.out).mono ?_
  rintro e w1 ⟨rfl, hb⟩
  go_wp2_with fail
  refine (H2.out _).mono ?_
  rintro e w2 ⟨rfl, rfl⟩
  go_wp2
  go_ret
  exact ⟨rfl, hb⟩

theorem frac_any (us : Int) (w : World) (hT : Tab w) :
    Calls Tryz.prog 62 #[.int .i64 us] w fun e w' => e = .returned (.string (fracB us)) ∧ Below w.heap.size w w' := by
  unfold fracB
  by_cases h : 1 ≤ us ∧ us ≤ 999999
  · rw [if_pos h]
    refine frac_core us _ _ h.1 h.2 (itoa7 h.1 h.2) (fracT_size h.1 h.2) (fun w k => formatInt_any _ (by omega) (by omega) w k) (fun w => ?_) w hT
    exact Tryz.strings_TrimRight_one _ 48 (by decide) w (by have := fracS_size h.1 h.2; unfold fracS at this; omega)
  · rw [if_neg h]
    exact frac_no us (by omega) w

/-- a clock's face. -/
def faceB (h m s us : Int) : ByteArray := twoB h ++ ⟨#[58]⟩ ++ twoB m ++ ⟨#[58]⟩ ++ twoB s ++ fracB us

set_option maxRecDepth 100000 in
set_option maxHeartbeats 2000000 in
theorem face_core (h m s us : Int) (A B C F : ByteArray) (a1 : A.size ≤ 21) (b1 : B.size ≤ 21) (c1 : C.size ≤ 21) (f1 : F.size ≤ 7)
    (H1 : Hid (∀ w : World, Tab w → Calls Tryz.prog 41 #[.int .i64 h] w fun e w' => e = .returned (.string A) ∧ Below w.heap.size w w'))
    (H2 : Hid (∀ w : World, Tab w → Calls Tryz.prog 41 #[.int .i64 m] w fun e w' => e = .returned (.string B) ∧ Below w.heap.size w w'))
    (H3 : Hid (∀ w : World, Tab w → Calls Tryz.prog 41 #[.int .i64 s] w fun e w' => e = .returned (.string C) ∧ Below w.heap.size w w'))
    (H4 : Hid (∀ w : World, Tab w → Calls Tryz.prog 62 #[.int .i64 us] w fun e w' => e = .returned (.string F) ∧ Below w.heap.size w w'))
    (w : World) (hT : Hid (Tab w)) :
    Calls Tryz.prog 76 #[.int .i64 h, .int .i64 m, .int .i64 s, .int .i64 us] w fun e w' => e = .returned (.string (A ++ ⟨#[58]⟩ ++ B ++ ⟨#[58]⟩ ++ C ++ F)) ∧ Below w.heap.size w w' := by
  go_enter Tryz.func76, Tryz.ntmps76
  go_wp2_with fail
  refine (H1.out _ hT.out).mono ?_
  rintro e w1 ⟨rfl, b1⟩
  have T1 := hT.out.below b1
  go_wp2_with fail
  refine (H2.out _ T1).mono ?_
  rintro e w2 ⟨rfl, b2⟩
  have T2 := T1.below b2
  have B2 := b1.trans (b2.mono b1.size)
  clear b1 b2 T1
  go_wp2_with fail
  refine (H3.out _ T2).mono ?_
  rintro e w3 ⟨rfl, b3⟩
  have T3 := T2.below b3
  have B3 := B2.trans (b3.mono B2.size)
  clear b3 T2 B2
  go_wp2_with fail
  refine (H4.out _ T3).mono ?_
  rintro e w4 ⟨rfl, b4⟩
  have B4 := B3.trans (b4.mono B3.size)
  clear b4 T3 B3
  go_wp2
  go_ret
  exact ⟨rfl, B4⟩

theorem face_any (h m s us : Int) (h1 : -9223372036854775808 ≤ h) (h2 : h ≤ 9223372036854775807) (m1 : -9223372036854775808 ≤ m) (m2 : m ≤ 9223372036854775807) (s1 : -9223372036854775808 ≤ s) (s2 : s ≤ 9223372036854775807) (w : World) (hT : Tab w) :
    Calls Tryz.prog 76 #[.int .i64 h, .int .i64 m, .int .i64 s, .int .i64 us] w fun e w' => e = .returned (.string (faceB h m s us)) ∧ Below w.heap.size w w' :=
  face_core h m s us _ _ _ _ (twoB_size h1 h2) (twoB_size m1 m2) (twoB_size s1 s2) (fracB_size us) (two_any h h1 h2) (two_any m m1 m2) (two_any s s1 s2) (frac_any us) w hT

end Go.Proofs.YtmohhbgmbicklaaGreatDoor.Clk
