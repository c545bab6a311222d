/- Contracts of clock.Text, clock.Long, clock.Offset. -/
import Derived.Test.YtmohhbgmbicklaaGreatDoorClkDq
namespace Go.Proofs.YtmohhbgmbicklaaGreatDoor.Clk
open Go.RowKit
set_option linter.unusedVariables false

/-- a time of a day as a text. -/
def textB (t : Int) : ByteArray := faceB (t / 3600000000) (t / 60000000 % 60) (t / 1000000 % 60) (t % 1000000)

set_option maxRecDepth 100000 in
set_option maxHeartbeats 1000000 in
theorem text_core (t h m s us : Int) (F : ByteArray)
    (H1 : Hid (∀ w : World, Calls Tryz.prog 75 #[.int .i64 t] w fun e w' => e = .returned (.tuple #[.int .i64 h, .int .i64 m, .int .i64 s, .int .i64 us, .int .i64 0]) ∧ w' = w))
    (H2 : Hid (∀ w : World, Tab w → Calls Tryz.prog 76 #[.int .i64 h, .int .i64 m, .int .i64 s, .int .i64 us] w fun e w' => e = .returned (.string F) ∧ Below w.heap.size w w'))
    (w : World) (hT : Hid (Tab w)) :
    Calls Tryz.prog 49 #[.int .i64 t] w fun e w' => e = .returned (.tuple #[.string F, .int .i64 0]) ∧ Below w.heap.size w w' := by
  go_enter Tryz.func49, Tryz.ntmps49
  go_wp2_with fail
  refine (H1.out _).mono ?_
  rintro e w1 ⟨rfl, rfl⟩
  go_wp2_with fail
  refine (H2.out _ hT.out).mono ?_
  rintro e w2 ⟨rfl, hb⟩
  go_wp2
  go_ret2
  exact ⟨rfl, hb⟩

theorem text_in (t : Int) (h : isT t) (w : World) (hT : Tab w) :
    Calls Tryz.prog 49 #[.int .i64 t] w fun e w' => e = .returned (.tuple #[.string (textB t), .int .i64 0]) ∧ Below w.heap.size w w' := by
  have P := parts_any t
  unfold tm tmE at P
  simp only [if_pos h] at P
  obtain ⟨h1, h2⟩ := h
  exact text_core t _ _ _ _ _ P (face_any _ _ _ _ (by omega) (by omega) (by omega) (by omega) (by omega) (by omega)) w hT

/-- a span of time as a text. -/
def longB (us : Int) : ByteArray := if us < 0 then ⟨#[45]⟩ ++ faceB (-(us.tdiv 3600000000)) (-((us.tdiv 60000000).tmod 60)) (-((us.tdiv 1000000).tmod 60)) (-(us.tmod 1000000)) else faceB (us.tdiv 3600000000) ((us.tdiv 60000000).tmod 60) ((us.tdiv 1000000).tmod 60) (us.tmod 1000000)

theorem faceB_size {h m s us : Int} (h1 : -9223372036854775808 ≤ h) (h2 : h ≤ 9223372036854775807) (m1 : -9223372036854775808 ≤ m) (m2 : m ≤ 9223372036854775807) (s1 : -9223372036854775808 ≤ s) (s2 : s ≤ 9223372036854775807) : (faceB h m s us).size ≤ 100 := by
  have a := twoB_size h1 h2
  have b := twoB_size m1 m2
  have c := twoB_size s1 s2
  have d := fracB_size us
  unfold faceB
  simp only [ByteArray.size_append]
  have e : (⟨#[58]⟩ : ByteArray).size = 1 := rfl
  omega

set_option maxRecDepth 100000 in
set_option maxHeartbeats 1000000 in
theorem long_pos (us h a m b s r : Int) (F : ByteArray) (hn : ¬ us < 0) (e1 : us.tdiv 3600000000 = h) (e2 : us.tdiv 60000000 = a) (e3 : a.tmod 60 = m) (e4 : us.tdiv 1000000 = b) (e5 : b.tmod 60 = s) (e6 : us.tmod 1000000 = r)
    (k1 : -9223372036854775808 ≤ h) (k2 : h ≤ 9223372036854775807) (k3 : -9223372036854775808 ≤ a) (k4 : a ≤ 9223372036854775807) (k5 : -9223372036854775808 ≤ b) (k6 : b ≤ 9223372036854775807)
    (H2 : Hid (∀ w : World, Tab w → Calls Tryz.prog 76 #[.int .i64 h, .int .i64 m, .int .i64 s, .int .i64 r] w fun e w' => e = .returned (.string F) ∧ Below w.heap.size w w'))
    (w : World) (hT : Hid (Tab w)) :
    Calls Tryz.prog 67 #[.int .i64 us] w fun e w' => e = .returned (.string F) ∧ Below w.heap.size w w' := by
  go_enter Tryz.func67, Tryz.ntmps67
  go_wp2_with fail
  refine (H2.out _ hT.out).mono ?_
  rintro e w2 ⟨rfl, hb⟩
  go_wp2
  go_ret
  exact ⟨rfl, hb⟩

set_option maxRecDepth 100000 in
set_option maxHeartbeats 1000000 in
theorem long_neg (us h a m b s r : Int) (F : ByteArray) (hF : F.size ≤ 100) (hn : us < 0) (e1 : us.tdiv 3600000000 = h) (e2 : us.tdiv 60000000 = a) (e3 : a.tmod 60 = m) (e4 : us.tdiv 1000000 = b) (e5 : b.tmod 60 = s) (e6 : us.tmod 1000000 = r)
    (k1 : -4611686018427387904 ≤ h) (k2 : h ≤ 4611686018427387904) (k3 : -4611686018427387904 ≤ a) (k4 : a ≤ 4611686018427387904) (k5 : -4611686018427387904 ≤ b) (k6 : b ≤ 4611686018427387904) (k7 : -60 ≤ m) (k8 : m ≤ 60) (k9 : -60 ≤ s) (k10 : s ≤ 60) (k11 : -1000000 ≤ r) (k12 : r ≤ 1000000)
    (H2 : Hid (∀ w : World, Tab w → Calls Tryz.prog 76 #[.int .i64 (-h), .int .i64 (-m), .int .i64 (-s), .int .i64 (-r)] w fun e w' => e = .returned (.string F) ∧ Below w.heap.size w w'))
    (w : World) (hT : Hid (Tab w)) :
    Calls Tryz.prog 67 #[.int .i64 us] w fun e w' => e = .returned (.string (⟨#[45]⟩ ++ F)) ∧ Below w.heap.size w w' := by
  go_enter Tryz.func67, Tryz.ntmps67
  go_wp2_with fail
  refine (H2.out _ hT.out).mono ?_
  rintro e w2 ⟨rfl, hb⟩
  go_wp2
  go_ret
  exact ⟨rfl, hb⟩

theorem tmod60 (a : Int) : -60 ≤ a.tmod 60 ∧ a.tmod 60 ≤ 60 := by
  have e : (a.tmod 60).natAbs = a.natAbs % 60 := Int.natAbs_tmod a 60
  omega
theorem tmodM (a : Int) : -1000000 ≤ a.tmod 1000000 ∧ a.tmod 1000000 ≤ 1000000 := by
  have e : (a.tmod 1000000).natAbs = a.natAbs % 1000000 := Int.natAbs_tmod a 1000000
  omega
theorem tdivK {a : Int} (k : Nat) (hk : 2 ≤ k) (h1 : -9223372036854775808 ≤ a) (h2 : a ≤ 9223372036854775807) : -4611686018427387904 ≤ a.tdiv k ∧ a.tdiv k ≤ 4611686018427387904 := by
  have e : (a.tdiv k).natAbs = a.natAbs / k := by rw [Int.natAbs_tdiv]; rfl
  have l : a.natAbs / k ≤ a.natAbs / 2 := Nat.div_le_div_left hk (by omega)
  omega

/-- clock.Long, whatever it is given. -/
theorem long_any (us : Int) (h1 : -9223372036854775808 ≤ us) (h2 : us ≤ 9223372036854775807) (w : World) (hT : Tab w) :
    Calls Tryz.prog 67 #[.int .i64 us] w fun e w' => e = .returned (.string (longB us)) ∧ Below w.heap.size w w' := by
  have a := tdivK 3600000000 (by decide) h1 h2
  have b := tdivK 60000000 (by decide) h1 h2
  have c := tdivK 1000000 (by decide) h1 h2
  have d := tmod60 (us.tdiv 60000000)
  have e := tmod60 (us.tdiv 1000000)
  have f := tmodM us
  have a' : -4611686018427387904 ≤ us.tdiv 3600000000 ∧ us.tdiv 3600000000 ≤ 4611686018427387904 := a
  have b' : -4611686018427387904 ≤ us.tdiv 60000000 ∧ us.tdiv 60000000 ≤ 4611686018427387904 := b
  have c' : -4611686018427387904 ≤ us.tdiv 1000000 ∧ us.tdiv 1000000 ≤ 4611686018427387904 := c
  clear a b c
  unfold longB
  by_cases h : us < 0
  · rw [if_pos h]
    exact long_neg us _ _ _ _ _ _ _ (faceB_size (by omega) (by omega) (by omega) (by omega) (by omega) (by omega)) h rfl rfl rfl rfl rfl rfl a'.1 a'.2 b'.1 b'.2 c'.1 c'.2 d.1 d.2 e.1 e.2 f.1 f.2 (face_any _ _ _ _ (by omega) (by omega) (by omega) (by omega) (by omega) (by omega)) w hT
  · rw [if_neg h]
    exact long_pos us _ _ _ _ _ _ _ h rfl rfl rfl rfl rfl rfl (by omega) (by omega) (by omega) (by omega) (by omega) (by omega) (face_any _ _ _ _ (by omega) (by omega) (by omega) (by omega) (by omega) (by omega)) w hT

end Go.Proofs.YtmohhbgmbicklaaGreatDoor.Clk
