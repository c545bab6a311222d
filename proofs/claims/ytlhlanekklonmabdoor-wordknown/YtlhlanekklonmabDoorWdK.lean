/- What the laws' fixed calls come to. -/
import Derived.Test.YtlhlanekklonmabDoorWdE
namespace Go.Proofs.YtlhlanekklonmabDoor
open Go.RowKit
set_option linter.unusedVariables false

def kS : ByteArray := ⟨#[49, 50, 106, 97, 110, 32, 51, 58, 48, 52]⟩
def kL : List PT := [(1, ⟨#[49, 50]⟩, 0), (2, ⟨#[106, 97, 110]⟩, 2), (1, ⟨#[51]⟩, 6), (3, ⟨#[58]⟩, 7), (1, ⟨#[48, 52]⟩, 8)]
theorem k_parts : splitB kS = .inr [(1, 0, 2), (2, 2, 5), (1, 6, 7), (3, 7, 8), (1, 8, 10)] := by decide +kernel
theorem k_texts : texts kS [(1, 0, 2), (2, 2, 5), (1, 6, 7), (3, 7, 8), (1, 8, 10)] = kL := by decide +kernel
theorem k_split (w : World) (hT : Tabs w) : Calls Tryd.prog 17 #[.string ⟨#[49, 50, 106, 97, 110, 32, 51, 58, 48, 52]⟩] w fun e w' => ∃ v, e = .returned (.tuple #[v, .int .i64 0, .int .i64 0]) ∧ w'.ownsRow w.heap.size 55 3 v 5 (flatT kL) ∧ Below w.heap.size w w' := by
  have h := wsplit_any kS w hT (by decide)
  rw [k_parts] at h
  refine h.mono ?_
  rintro e w' ⟨hb, v, he, ho⟩
  rw [flatP_texts, k_texts] at ho
  exact ⟨v, he, ho, hb⟩
theorem k_month1 (w : World) : Calls Tryd.prog 28 #[.string ⟨#[115, 101, 112, 116]⟩] w fun e w' => e = .returned (.int .i64 9) ∧ Below w.heap.size w w' := by
  have h := month_any ⟨#[115, 101, 112, 116]⟩ (by decide) w
  rw [show shortB ⟨#[115, 101, 112, 116]⟩ monthsL + 1 = 9 by decide +kernel] at h
  exact h
theorem k_month2 (w : World) : Calls Tryd.prog 28 #[.string ⟨#[109, 97]⟩] w fun e w' => e = .returned (.int .i64 0) ∧ Below w.heap.size w w' := by
  have h := month_any ⟨#[109, 97]⟩ (by decide) w
  rw [show shortB ⟨#[109, 97]⟩ monthsL + 1 = 0 by decide +kernel] at h
  exact h
theorem k_day (w : World) : Calls Tryd.prog 30 #[.string ⟨#[84, 85, 69]⟩] w fun e w' => e = .returned (.int .i64 2) ∧ Below w.heap.size w w' := by
  have h := day_any ⟨#[84, 85, 69]⟩ (by decide) w
  rw [show shortB ⟨#[84, 85, 69]⟩ daysL = 2 by decide +kernel] at h
  exact h
theorem k_row (w : World) : Row (w.alloc (.cells (flatT kL).toArray 82)) (.slice (some ⟨w.heap.size, 0, none⟩) 5 5) kL := ⟨0, by
  have := World.ownsRow_lit (base := 0) (e := 82) (size := 3) w (flatT kL).toArray 5 (Nat.zero_le _) (by decide) rfl
  exact this⟩

set_option maxRecDepth 100000 in
set_option maxHeartbeats 2000000 in
theorem known_any (w : World) (hT : Tabs w) : Calls Tryd.prog 21 #[] w fun e w' => e = .returned (.bool true) ∧ Below w.heap.size w w' := by
  go_enter Tryd.func21, Tryd.ntmps21
  go_wp2_with fail
  refine (k_split _ hT).mono ?_
  rintro e w1 ⟨v, rfl, ho, B1⟩
  have HO : Hid (w1.ownsRow w.heap.size 55 3 v 5 (flatT kL)) := ho
  have HB1 : Hid (Below w.heap.size w w1) := B1
  clear ho B1
  go_wp2_with fail
  have HR : Row (w1.alloc (.cells (flatT kL).toArray 82)) (.slice (some ⟨w1.heap.size, 0, none⟩) 5 5) kL := k_row w1
  have HB2 : Hid (Below w.heap.size w (w1.alloc (.cells (flatT kL).toArray 82))) := HB1.out.alloc HB1.out.size _
  refine (taken_any kL v w.heap.size _ (by decide) (HO.out.alloc _)).mono ?_
  rintro e w2 ⟨v2, rfl, ho2, b2⟩
  have HR1 : Hid (Row w2 v2 kL) := ⟨_, ho2⟩
  have HR2 : Hid (Row w2 (.slice (some ⟨w1.heap.size, 0, none⟩) 5 5) kL) := HR.below b2
  have HB3 : Hid (Below w.heap.size w w2) := HB2.out.trans (b2.mono HB2.out.size)
  clear ho2 b2 HR HO HB1 HB2
  go_wp2_with fail
  refine (parts_any kL kL v2 _ _ (by decide) (by decide) HR1.out HR2.out).mono ?_
  rintro e w3 ⟨rfl, b3⟩
  have HB4 : Hid (Below w.heap.size w w3) := HB3.out.trans (b3.mono HB3.out.size)
  clear b3 HB3 HR1 HR2
  have hd : decide (kL = kL) = true := by simp
  rw [hd]
  go_wp2_with fail
  refine (k_month1 _).mono ?_
  rintro e w4 ⟨rfl, b4⟩
  have HB5 : Hid (Below w.heap.size w w4) := HB4.out.trans (b4.mono HB4.out.size)
  clear b4 HB4
  go_wp2_with fail
  refine (k_month2 _).mono ?_
  rintro e w5 ⟨rfl, b5⟩
  have HB6 : Hid (Below w.heap.size w w5) := HB5.out.trans (b5.mono HB5.out.size)
  clear b5 HB5
  go_wp2_with fail
  refine (k_day _).mono ?_
  rintro e w6 ⟨rfl, b6⟩
  have HB7 : Hid (Below w.heap.size w w6) := HB6.out.trans (b6.mono HB6.out.size)
  clear b6 HB6
  go_wp2
  go_ret
  exact ⟨rfl, HB7.out⟩

end Go.Proofs.YtlhlanekklonmabDoor
