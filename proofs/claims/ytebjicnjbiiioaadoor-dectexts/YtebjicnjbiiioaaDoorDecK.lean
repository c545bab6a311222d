/- What the law's fixed calls come to. -/
import Derived.Test.YtebjicnjbiiioaaDoorDecS
namespace Go.Proofs.YtebjicnjbiiioaaDoor
open Go.RowKit
set_option linter.unusedVariables false

theorem ret_str {a b : ByteArray} (h : a = b) : Ending.returned (.string a) = .returned (.string b) := by rw [h]

/-- the table of the powers of ten lies as it must. -/
def Tab (w : World) : Prop := Lib.TabIs Tryd.prog w "internal/strconv.uint64pow10" .u64 Lib.pow10Tab
theorem Tab.below {w w1 : World} (h : Tab w) (hb : Below w.heap.size w w1) : Tab w1 := Lib.tabBelow_of_tabIs h w1 hb
theorem Tab.alloc {w : World} (h : Tab w) (o : Obj) : Tab (w.alloc o) := h.below ((Below.refl _ _).alloc (Nat.le_refl _) o)

theorem formatInt_any (n : Int) (h0 : -9223372036854775808 ≤ n) (h1 : n ≤ 9223372036854775807) (w : World) (hT : Tab w) :
    Calls Tryd.prog 27 #[.int .i64 n, .int .i64 10] w fun e w' => e = .returned (.string ⟨(Lib.itoa n).toArray⟩) ∧ Below w.heap.size w w' :=
  (Tryd.strconv_FormatInt_10 n h0 h1 w hT).mono fun e w' ⟨he, k, os, hw⟩ => ⟨he, hw ▸ Lib.below_grow w.heap.size w (Nat.le_refl _) k os⟩

theorem k_read (w : World) : Calls Tryd.prog 11 #[.string ⟨#[49, 50, 46, 51, 52, 48]⟩] w fun e w' => e = .returned (.tuple #[.agg #[.int .i64 12340, .int .i64 3], .int .i64 0]) ∧ Below w.heap.size w w' := by
  have HC := cut_any ⟨#[49, 50, 46, 51, 52, 48]⟩ (by decide)
  rw [show cutA ⟨#[49, 50, 46, 51, 52, 48]⟩ = ⟨#[49, 50]⟩ by decide +kernel, show cutB ⟨#[49, 50, 46, 51, 52, 48]⟩ = ⟨#[51, 52, 48]⟩ by decide +kernel, show cutF ⟨#[49, 50, 46, 51, 52, 48]⟩ = true by decide +kernel] at HC
  have DA := areDigits_any ⟨#[49, 50]⟩
  rw [show areD ⟨#[49, 50]⟩ = true by decide +kernel] at DA
  have DB := areDigits_any ⟨#[51, 52, 48]⟩
  rw [show areD ⟨#[51, 52, 48]⟩ = true by decide +kernel] at DB
  have NU := number_any (⟨#[49, 50]⟩ ++ ⟨#[51, 52, 48]⟩) false (by decide +kernel)
  rw [show smV (sg false (valL ((⟨#[49, 50]⟩ : ByteArray) ++ ⟨#[51, 52, 48]⟩).data.toList)) = 12340 by decide +kernel, show smE (sg false (valL ((⟨#[49, 50]⟩ : ByteArray) ++ ⟨#[51, 52, 48]⟩).data.toList)) = 0 by decide +kernel] at NU
  exact read_none_g1 ⟨#[49, 50, 46, 51, 52, 48]⟩ ⟨#[49, 50]⟩ ⟨#[51, 52, 48]⟩ 12340 0 (by decide) (fun w => Tryd.strings_HasPrefix _ _ w) (fun w => Tryd.strings_HasPrefix _ _ w) HC DA DB NU (by decide) w

theorem k_round (w : World) : Calls Tryd.prog 40 #[.agg #[.int .i64 25, .int .i64 1], .int .i64 0] w fun e w' => e = .returned (.tuple #[.agg #[.int .i64 3, .int .i64 0], .int .i64 0]) ∧ Below w.heap.size w w' := by
  have h := dround_any 25 1 0 (by decide) (by decide) w
  rw [show rndE 25 1 0 = 0 by decide +kernel, show rndN 25 1 0 = 3 by decide +kernel] at h
  exact h
theorem k_floor (w : World) : Calls Tryd.prog 41 #[.agg #[.int .i64 (-5), .int .i64 1]] w fun e w' => e = .returned (.tuple #[.int .i64 (-1), .int .i64 0]) ∧ Below w.heap.size w w' :=
  dfloor_any (-5) 1 (by decide) (by decide) (by decide) w
theorem k_trim (w : World) : Calls Tryd.prog 42 #[.agg #[.int .i64 12340, .int .i64 3]] w fun e w' => e = .returned (.agg #[.int .i64 1234, .int .i64 2]) ∧ Below w.heap.size w w' := by
  have h := dtrim_ok 12340 3 (by decide) (by decide) (by decide) w
  rw [show trimN 12340 3 = 1234 by decide +kernel, show trimS 12340 3 = 2 by decide +kernel] at h
  exact h

set_option maxRecDepth 100000 in
set_option maxHeartbeats 1000000 in
theorem k_text (w : World) (hT : Tab w) : Calls Tryd.prog 9 #[.agg #[.int .i64 (-5), .int .i64 1]] w fun e w' => e = .returned (.string ⟨#[45, 48, 46, 53]⟩) ∧ Below w.heap.size w w' := by
  have H1 : Hid (∀ w : World, Tab w → Calls Tryd.prog 27 #[.int .i64 (-5), .int .i64 10] w fun e w' => e = .returned (.string ⟨#[45, 53]⟩) ∧ Below w.heap.size w w') := fun w h => by
    have := formatInt_any (-5) (by decide) (by decide) w h
    rw [show Lib.itoa (-5) = [45, 53] by decide +kernel] at this
    exact this
  have H2 : Hid (∀ w : World, Calls Tryd.prog 26 #[.string ⟨#[45, 53]⟩, .string ⟨#[45]⟩] w fun e w' => e = .returned (.tuple #[.string ⟨#[53]⟩, .bool true]) ∧ w' = w) := fun w => Tryd.strings_CutPrefix _ _ w
  have H3 : Hid (∀ w : World, Calls Tryd.prog 28 #[.string ⟨#[48]⟩, .int .i64 1] w fun e w' => e = .returned (.string ⟨#[48]⟩) ∧ w' = w) := fun w => Tryd.strings_Repeat_one _ w
  have F := Box.new w (-5) 1
  have HB : Hid (Below w.heap.size w (w.alloc (dbox (-5) 1))) := (Below.refl _ _).alloc (Nat.le_refl _) _
  go_enter Tryd.func9, Tryd.ntmps9
  go_wp2_with fail
  refine (dright_yes _ _ (by decide) _).mono ?_
  rintro e w1 ⟨rfl, hb⟩
  have F1 := F.below hb F.1
  have HB1 : Hid (Below w.heap.size w w1) := HB.out.trans (hb.mono HB.out.size)
  have T1 := hT.below HB1.out
  clear F HB hb hT
  obtain ⟨x1, x2, x3, x4, x5⟩ := id F1
  go_wp2_with fail
  refine (H1.out _ T1).mono ?_
  rintro e w2 ⟨rfl, hb⟩
  have F2 := F1.below hb F1.1
  have HB2 : Hid (Below w.heap.size w w2) := HB1.out.trans (hb.mono HB1.out.size)
  clear F1 HB1 hb T1 x1 x2 x3 x4 x5
  obtain ⟨x1, x2, x3, x4, x5⟩ := id F2
  go_wp2_with fail
  refine (H2.out _).mono ?_
  rintro e w3 ⟨rfl, rfl⟩
  go_wp2_with fail
  refine (H3.out _).mono ?_
  rintro e w4 ⟨rfl, rfl⟩
  go_wp2_with fail
  go_quiet (fail)
  go_wp2
  go_ret
  exact ⟨ret_str (by decide +kernel), below_drewN HB2.out nq⟩

set_option maxRecDepth 100000 in
set_option maxHeartbeats 2000000 in
theorem known_any (w : World) (hT : Tab w) : Calls Tryd.prog 16 #[] w fun e w' => e = .returned (.bool true) ∧ Below w.heap.size w w' := by
  go_enter Tryd.func16, Tryd.ntmps16
  go_wp2_with fail
  refine (k_read _).mono ?_
  rintro e w1 ⟨rfl, hb⟩
  have T1 := hT.below hb
  have HB1 : Hid (Below w.heap.size w (w1.alloc (dbox 12340 3))) := hb.alloc hb.size _
  have A1 := Box.new w1 12340 3
  have T1' := T1.alloc (dbox 12340 3)
  clear hb T1 hT
  go_wp2_with fail
  refine (k_round _).mono ?_
  rintro e w2 ⟨rfl, hb⟩
  have T2 := (T1'.below hb).alloc (dbox 3 0)
  have HB2 : Hid (Below w.heap.size w (w2.alloc (dbox 3 0))) := (HB1.out.trans (hb.mono HB1.out.size)).alloc (Nat.le_trans HB1.out.size hb.size) _
  have A2 := (A1.below hb A1.1).alloc (dbox 3 0)
  have C2 := Box.new w2 3 0
  clear hb T1' HB1 A1
  go_wp2_with fail
  refine (k_floor _).mono ?_
  rintro e w3 ⟨rfl, hb⟩
  have T3 := T2.below hb
  have HB3 : Hid (Below w.heap.size w w3) := HB2.out.trans (hb.mono HB2.out.size)
  have A3 := A2.below hb A2.1
  have C3 := C2.below hb C2.1
  clear hb T2 HB2 A2 C2
  obtain ⟨x1, x2, x3, x4, x5⟩ := id A3
  go_wp2_with fail
  refine (k_trim _).mono ?_
  rintro e w4 ⟨rfl, hb⟩
  have T4 := (T3.below hb).alloc (dbox 1234 2)
  have HB4 : Hid (Below w.heap.size w (w4.alloc (dbox 1234 2))) := (HB3.out.trans (hb.mono HB3.out.size)).alloc (Nat.le_trans HB3.out.size hb.size) _
  have A4 := (A3.below hb A3.1).alloc (dbox 1234 2)
  have C4 := (C3.below hb C3.1).alloc (dbox 1234 2)
  have D4 := Box.new w4 1234 2
  clear hb T3 HB3 A3 C3 x1 x2 x3 x4 x5
  go_wp2_with fail
  refine (k_text _ T4).mono ?_
  rintro e w5 ⟨rfl, hb⟩
  have HB5 : Hid (Below w.heap.size w w5) := HB4.out.trans (hb.mono HB4.out.size)
  obtain ⟨x1, x2, x3, x4, x5⟩ := A4.below hb A4.1
  obtain ⟨y1, y2, y3, y4, y5⟩ := C4.below hb C4.1
  obtain ⟨z1, z2, z3, z4, z5⟩ := D4.below hb D4.1
  clear hb T4 HB4 A4 C4 D4
  go_wp2
  go_ret
  exact ⟨rfl, HB5.out⟩

end Go.Proofs.YtebjicnjbiiioaaDoor
