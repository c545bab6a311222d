/- Contract: src.Name of any text. -/
import Derived.Test.YtgnfkkcagbbhmaaGreatDoorNmBq
import Derived.Laws.RangeAny
namespace Go.Proofs.YtgnfkkcagbbhmaaGreatDoor
open Go.RowKit
set_option linter.unusedVariables false

theorem enc_forms (R : Int) (h1 : 128 ≤ R) (hv : Lib.validRune R = true) : (∃ b0 z : UInt8, Utf8.encode R = ⟨#[b0, z]⟩ ∧ 128 ≤ z.toNat) ∨ (∃ b0 b1 z : UInt8, Utf8.encode R = ⟨#[b0, b1, z]⟩ ∧ 128 ≤ z.toNat) ∨ ∃ b0 b1 b2 z : UInt8, Utf8.encode R = ⟨#[b0, b1, b2, z]⟩ ∧ 128 ≤ z.toNat := by
  have hvv : Utf8.valid R = true := by
    simp only [Lib.validRune, decide_eq_true_eq] at hv
    simp only [Utf8.valid, Bool.or_eq_true, Bool.and_eq_true, decide_eq_true_eq]
    omega
  have hz : 128 ≤ (UInt8.ofNat (0x80 + R.toNat % 64)).toNat := by
    have : (UInt8.ofNat (0x80 + R.toNat % 64)).toNat = (0x80 + R.toNat % 64) % 256 := by simp
    omega
  have hn : ¬ R.toNat < 0x80 := by omega
  by_cases c1 : R.toNat < 0x800
  · exact .inl ⟨UInt8.ofNat (0xC0 + R.toNat / 64), UInt8.ofNat (0x80 + R.toNat % 64), by unfold Utf8.encode; simp only [hvv, if_true, if_neg hn, if_pos c1], hz⟩
  · by_cases c2 : R.toNat < 0x10000
    · exact .inr (.inl ⟨UInt8.ofNat (0xE0 + R.toNat / 4096), UInt8.ofNat (0x80 + R.toNat / 64 % 64), UInt8.ofNat (0x80 + R.toNat % 64), by unfold Utf8.encode; simp only [hvv, if_true, if_neg hn, if_neg c1, if_pos c2], hz⟩)
    · exact .inr (.inr ⟨UInt8.ofNat (0xF0 + R.toNat / 262144), UInt8.ofNat (0x80 + R.toNat / 4096 % 64), UInt8.ofNat (0x80 + R.toNat / 64 % 64), UInt8.ofNat (0x80 + R.toNat % 64), by unfold Utf8.encode; simp only [hvv, if_true, if_neg hn, if_neg c1, if_neg c2], hz⟩)
theorem irune_high (R : Int) (h1 : 128 ≤ R) (w : World) : Calls Tryz.prog 74 #[.string ⟨#[95, 45, 43, 47]⟩, .int .i32 R] w fun e w' => e = .returned (.int .i64 (-1)) ∧ Below w.heap.size w w' := by
  by_cases h2 : R = 65533
  · subst h2; exact irune_err w
  · cases hv : Lib.validRune R with
    | false =>
      refine (irune_bad R h1 h2 hv w).mono ?_
      rintro e w' ⟨rfl, rfl⟩
      exact ⟨rfl, Below.refl _ _⟩
    | true =>
      rcases enc_forms R h1 hv with ⟨b0, z, he, hz⟩ | ⟨b0, b1, z, he, hz⟩ | ⟨b0, b1, b2, z, he, hz⟩
      · exact irune_2 R b0 z h1 h2 hv he hz w
      · exact irune_3 R b0 b1 z h1 h2 hv he hz w
      · exact irune_4 R b0 b1 b2 z h1 h2 hv he hz w

set_option maxRecDepth 100000 in
set_option maxHeartbeats 4000000 in
theorem crune_high (R : Int) (h1 : 128 ≤ R) (w : World) : Calls Tryz.prog 42 #[.string ⟨#[95, 45, 43, 47]⟩, .int .i32 R] w fun e w' => e = .returned (.bool false) ∧ Below w.heap.size w w' := by
  have H := irune_high R h1 w
  go_enter Tryz.func42, Tryz.ntmps42
  go_wp2_with fail
  refine H.mono ?_
  rintro e w2 ⟨rfl, hb⟩
  have HB : Hid (Below w.heap.size w w2) := hb
  clear hb H
  go_wp2_with fail
  exact bodyPost_ret (v := .bool false) (by simp [results, Tryz.results42, go_sem]) rfl ⟨rfl, HB.out⟩

theorem isP_low : ∀ r : Fin 128, decide (0 ≤ Lib.indexByte [95, 45, 43, 47] ((r.val : Int).toNat.toUInt8)) = isP (r.val : Int) := by decide +kernel
theorem crune_all : CRune 2147483648 := by
  intro R w h0 h1
  by_cases hl : R < 128
  · refine (Tryz.strings_ContainsRune_ascii ⟨#[95, 45, 43, 47]⟩ R w h0 hl).mono ?_
    rintro e w' ⟨rfl, rfl⟩
    refine ⟨?_, Below.refl _ _⟩
    have := isP_low ⟨R.toNat, by omega⟩
    simp only [show ((R.toNat : Nat) : Int) = R by omega] at this
    rw [← this]
  · refine (crune_high R (by omega) w).mono ?_
    rintro e w' ⟨rfl, hb⟩
    refine ⟨?_, hb⟩
    have : isP R = false := by simp [isP]; omega
    rw [this]
/-- src.Name of any text. -/
theorem name_full (s : ByteArray) (hs : s.size ≤ maxLen) (w : World) : Calls Tryz.prog 15 #[.string s] w fun e w' => e = .returned (.bool (nameB s)) ∧ Below w.heap.size w w' :=
  name_any s 2147483648 crune_all (fun pos _ => by have := decode_le s pos; omega) hs w

end Go.Proofs.YtgnfkkcagbbhmaaGreatDoor
