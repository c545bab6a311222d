/- Contracts: src.Format of law08's three fixed calls. -/
import Derived.Test.YtgnfkkcagbbhmaaGreatDoorPmUq
import Derived.Test.YtgnfkkcagbbhmaaGreatDoorClkCq
namespace Go.Proofs.YtgnfkkcagbbhmaaGreatDoor
open Go.RowKit
set_option linter.unusedVariables false

theorem lib_a : Lib.cut [67, 69, 37, 115, 84] [47] = ([67, 69, 37, 115, 84], [], false) := by decide +kernel
theorem lib_b : Lib.contains [67, 69, 37, 115, 84] [37, 115] = true := by decide +kernel
theorem lib_c : Lib.replace [67, 69, 37, 115, 84] [37, 115] [83] 1 = [67, 69, 83, 84] := by decide +kernel
theorem lib_d : Lib.cut [37, 122] [47] = ([37, 122], [], false) := by decide +kernel
theorem lib_e : Lib.contains [37, 122] [37, 115] = false := by decide +kernel
theorem lib_f : Lib.replace [37, 122] [37, 122] [45, 48, 51, 51, 48] 1 = [45, 48, 51, 51, 48] := by decide +kernel
theorem lib_g : Lib.cut [71, 77, 84, 47, 66, 83, 84] [47] = ([71, 77, 84], [66, 83, 84], true) := by decide +kernel
theorem two_3 : Clk.twoB 3 = ⟨#[48, 51]⟩ := by decide +kernel
theorem two_30 : Clk.twoB 30 = ⟨#[51, 48]⟩ := by decide +kernel

set_option maxRecDepth 100000 in
set_option maxHeartbeats 4000000 in
theorem fmt_a (w : World) (hM : Lin.Mx w) : Calls Tryz.prog 13 #[.string ⟨#[67, 69, 37, 115, 84]⟩, .int .i64 3600, .string ⟨#[83]⟩, .int .i64 7200] w fun e w' => e = .returned (.string ⟨#[67, 69, 83, 84]⟩) ∧ Below w.heap.size w w' := by
  have HM : Hid (Lin.Mx w) := hM
  clear hM
  go_enter Tryz.func13, Tryz.ntmps13
  go_wp2_with fail
  obtain ⟨m, hm⟩ := HM.out
  refine (Tryz.strings_Cut ⟨#[67, 69, 37, 115, 84]⟩ ⟨#[47]⟩ m w (by decide) hm).mono ?_
  rintro e w1 ⟨rfl, n, hn⟩
  have b1 : Hid (Below w.heap.size w w1) := by rw [hn]; exact Clk.below_drewN (Below.refl _ _) n
  clear hn hm
  rw [show (⟨#[67, 69, 37, 115, 84]⟩ : ByteArray).data.toList = [67, 69, 37, 115, 84] from rfl, show (⟨#[47]⟩ : ByteArray).data.toList = [47] from rfl, lib_a]
  go_wp2_with fail
  obtain ⟨m1, hm1⟩ := HM.out.below b1.out
  refine (Tryz.strings_Contains ⟨#[67, 69, 37, 115, 84]⟩ ⟨#[37, 115]⟩ m1 w1 (by decide) hm1).mono ?_
  rintro e w2 ⟨rfl, rfl⟩
  rw [show (⟨#[67, 69, 37, 115, 84]⟩ : ByteArray).data.toList = [67, 69, 37, 115, 84] from rfl, show (⟨#[37, 115]⟩ : ByteArray).data.toList = [37, 115] from rfl, lib_b]
  go_wp2_with fail
  refine (Tryz.strings_Replace ⟨#[67, 69, 37, 115, 84]⟩ ⟨#[37, 115]⟩ ⟨#[83]⟩ 1 m1 _ (by decide) hm1 (by decide) (by decide +kernel)).mono ?_
  rintro e w3 ⟨rfl, hb3⟩
  rw [show (⟨#[67, 69, 37, 115, 84]⟩ : ByteArray).data.toList = [67, 69, 37, 115, 84] from rfl, show (⟨#[37, 115]⟩ : ByteArray).data.toList = [37, 115] from rfl, show (⟨#[83]⟩ : ByteArray).data.toList = [83] from rfl, lib_c]
  go_wp2_with fail
  go_ret
  exact ⟨rfl, b1.out.trans (hb3.mono b1.out.size)⟩

set_option maxRecDepth 100000 in
set_option maxHeartbeats 4000000 in
theorem off_b (w : World) (hT : Clk.Tab w) : Calls Tryz.prog 37 #[.int .i64 (-12600)] w fun e w' => e = .returned (.string ⟨#[45, 48, 51, 51, 48]⟩) ∧ Below w.heap.size w w' := by
  have HT : Hid (Clk.Tab w) := hT
  clear hT
  have n1 : IntKind.i64.wrap 12600 = 12600 := by decide
  have n2 : wrap64 3 = 3 := by unfold wrap64; omega
  have n3 : wrap64 210 = 210 := by unfold wrap64; omega
  have m1 : min (12600 : Int) 359999 = 12600 := by decide
  have m2 : min (-12600 : Int) 359999 = -12600 := by decide
  have q1 : (12600 : Int).tdiv 3600 = 3 := by decide
  have q2 : (12600 : Int).tmod 3600 = 1800 := by decide
  have q3 : (12600 : Int).tdiv 60 = 210 := by decide
  have q4 : (210 : Int).tmod 60 = 30 := by decide
  have q5 : (12600 : Int).tmod 60 = 0 := by decide
  go_enter Tryz.func37, Tryz.ntmps37
  go_wp2_with fail
  refine (Clk.two_any 3 (by omega) (by omega) _ HT.out).mono ?_
  rintro e w1 ⟨rfl, hb1⟩
  rw [two_3]
  have T1 : Hid (Clk.Tab w1) := HT.out.below hb1
  go_wp2_with fail
  refine (Clk.two_any 30 (by omega) (by omega) _ T1.out).mono ?_
  rintro e w2 ⟨rfl, hb2⟩
  rw [two_30]
  go_wp2_with fail
  go_ret
  exact ⟨rfl, hb1.trans (hb2.mono hb1.size)⟩

set_option maxRecDepth 100000 in
set_option maxHeartbeats 4000000 in
theorem fmt_b (w : World) (hM : Lin.Mx w) (hT : Clk.Tab w) : Calls Tryz.prog 13 #[.string ⟨#[37, 122]⟩, .int .i64 0, .string ⟨#[]⟩, .int .i64 (-12600)] w fun e w' => e = .returned (.string ⟨#[45, 48, 51, 51, 48]⟩) ∧ Below w.heap.size w w' := by
  have HM : Hid (Lin.Mx w) := hM
  have HT : Hid (Clk.Tab w) := hT
  clear hM hT
  go_enter Tryz.func13, Tryz.ntmps13
  go_wp2_with fail
  obtain ⟨m, hm⟩ := HM.out
  refine (Tryz.strings_Cut ⟨#[37, 122]⟩ ⟨#[47]⟩ m w (by decide) hm).mono ?_
  rintro e w1 ⟨rfl, n, hn⟩
  have b1 : Hid (Below w.heap.size w w1) := by rw [hn]; exact Clk.below_drewN (Below.refl _ _) n
  clear hn hm
  rw [show (⟨#[37, 122]⟩ : ByteArray).data.toList = [37, 122] from rfl, show (⟨#[47]⟩ : ByteArray).data.toList = [47] from rfl, lib_d]
  go_wp2_with fail
  obtain ⟨m1, hm1⟩ := HM.out.below b1.out
  refine (Tryz.strings_Contains ⟨#[37, 122]⟩ ⟨#[37, 115]⟩ m1 w1 (by decide) hm1).mono ?_
  rintro e w2 ⟨rfl, rfl⟩
  rw [show (⟨#[37, 122]⟩ : ByteArray).data.toList = [37, 122] from rfl, show (⟨#[37, 115]⟩ : ByteArray).data.toList = [37, 115] from rfl, lib_e]
  clear hm1
  go_wp2_with fail
  refine (off_b w2 (HT.out.below b1.out)).mono ?_
  rintro e w3 ⟨rfl, hb3⟩
  have b3 : Hid (Below w.heap.size w w3) := b1.out.trans (hb3.mono b1.out.size)
  clear hb3
  go_wp2_with fail
  obtain ⟨m3, hm3⟩ := HM.out.below b3.out
  refine (Tryz.strings_Replace ⟨#[37, 122]⟩ ⟨#[37, 122]⟩ ⟨#[45, 48, 51, 51, 48]⟩ 1 m3 _ (by decide) hm3 (by decide) (by decide +kernel)).mono ?_
  rintro e w4 ⟨rfl, hb4⟩
  rw [show (⟨#[37, 122]⟩ : ByteArray).data.toList = [37, 122] from rfl, show (⟨#[45, 48, 51, 51, 48]⟩ : ByteArray).data.toList = [45, 48, 51, 51, 48] from rfl, lib_f]
  clear hm3
  go_wp2_with fail
  go_ret
  exact ⟨rfl, b3.out.trans (hb4.mono b3.out.size)⟩

set_option maxRecDepth 100000 in
set_option maxHeartbeats 4000000 in
theorem fmt_c (w : World) (hM : Lin.Mx w) : Calls Tryz.prog 13 #[.string ⟨#[71, 77, 84, 47, 66, 83, 84]⟩, .int .i64 3600, .string ⟨#[]⟩, .int .i64 3600] w fun e w' => e = .returned (.string ⟨#[66, 83, 84]⟩) ∧ Below w.heap.size w w' := by
  have HM : Hid (Lin.Mx w) := hM
  clear hM
  go_enter Tryz.func13, Tryz.ntmps13
  go_wp2_with fail
  obtain ⟨m, hm⟩ := HM.out
  refine (Tryz.strings_Cut ⟨#[71, 77, 84, 47, 66, 83, 84]⟩ ⟨#[47]⟩ m w (by decide) hm).mono ?_
  rintro e w1 ⟨rfl, n, hn⟩
  have b1 : Hid (Below w.heap.size w w1) := by rw [hn]; exact Clk.below_drewN (Below.refl _ _) n
  clear hn hm
  rw [show (⟨#[71, 77, 84, 47, 66, 83, 84]⟩ : ByteArray).data.toList = [71, 77, 84, 47, 66, 83, 84] from rfl, show (⟨#[47]⟩ : ByteArray).data.toList = [47] from rfl, lib_g]
  go_wp2_with fail
  go_ret
  exact ⟨rfl, b1.out⟩

end Go.Proofs.YtgnfkkcagbbhmaaGreatDoor
