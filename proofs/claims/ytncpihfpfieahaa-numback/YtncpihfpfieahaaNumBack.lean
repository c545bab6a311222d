/- A number times another one, and how often that is there, is the number; how often and what is left give the number again: NumBack returns true for every two int64s. -/
import Derived.Test.YtncpihfpfieahaaRows
import Derived.WalkKit
import Derived.ProofKit
import Derived.OpenShut
import Derived.ShutString
import Derived.Test.YtncpihfpfieahaaNumK
namespace Go.Proofs.Ytncpihfpfieahaa.numBack
open Go.ChangeShapes Go.WideShapes Go.ChangeAt Go.RowKit
open Go.ChangeMaps (open_string shut_string)
set_option linter.unusedVariables false      -- a walk need not use every 'w<i>' (that an integer argument fits its kind)

theorem own : ownKnob Try.prog.godebug = none := by kernel_rfl

theorem back (a b : Int) (hb : b ≠ 0) : (a * b).fdiv b = a := Int.mul_fdiv_cancel a hb

set_option maxHeartbeats 1000000 in
theorem walk_zero (a0 : Int) (w : World) :
    Calls Try.prog 8 #[.int .i64 a0, .int .i64 0] w fun e w' => e = .returned (.bool true) ∧ Below w.heap.size w w' := by
  go_enter Try.func8, Try.ntmps8
  go_wp2_with fail
  refine (scale_zero _ _ _).mono ?_
  rintro e w1 ⟨rfl, rfl⟩
  go_wp2_with fail
  refine (known_any _).mono ?_
  rintro e w2 ⟨rfl, hb⟩
  go_wp2
  go_ret
  exact ⟨rfl, hb⟩

set_option maxHeartbeats 1000000 in
theorem walk_edge (w : World) :
    Calls Try.prog 8 #[.int .i64 (-9223372036854775808), .int .i64 (-1)] w fun e w' => e = .returned (.bool true) ∧ Below w.heap.size w w' := by
  have C1 : ∀ w : World, Calls Try.prog 22 #[.int .i64 (-9223372036854775808), .int .i64 (-1), .int .i64 (-1)] w fun e w' => e = .returned (.tuple #[.int .i64 (-9223372036854775808), .int .i64 0]) ∧ Below w.heap.size w w' := by
    intro w
    have h := scale_any (-9223372036854775808) (-1) (-1) (by decide) (by decide) (by decide) (by decide) (by decide) (by decide) (by decide) w
    rw [back _ _ (by decide), smV_in (by decide) (by decide), smE_in (by decide) (by decide)] at h
    exact h
  have H1 : Hid (∀ w : World, Calls Try.prog 22 #[.int .i64 (-9223372036854775808), .int .i64 (-1), .int .i64 (-1)] w fun e w' => e = .returned (.tuple #[.int .i64 (-9223372036854775808), .int .i64 0]) ∧ Below w.heap.size w w') := C1
  have H2 : Hid (∀ w : World, Calls Try.prog 20 #[.int .i64 (-9223372036854775808), .int .i64 (-1)] w fun e w' => e = .returned (.tuple #[.int .i64 0, .int .i64 0]) ∧ w' = w) := fun w => mod_in (-9223372036854775808) (-1) (by decide) (by decide) (by decide) w
  clear C1
  go_enter Try.func8, Try.ntmps8
  go_wp2_with fail
  refine (H1.out _).mono ?_
  rintro e w1 ⟨rfl, hb1⟩
  go_wp2_with fail
  refine (div_edge _).mono ?_
  rintro e w2 ⟨rfl, rfl⟩
  go_wp2_with fail
  refine (H2.out _).mono ?_
  rintro e w2 ⟨rfl, rfl⟩
  go_wp2_with fail
  refine (known_any _).mono ?_
  rintro e w3 ⟨rfl, hb3⟩
  go_wp2
  go_ret
  exact ⟨rfl, hb1.trans (hb3.mono hb1.size)⟩

set_option maxHeartbeats 1000000 in
theorem walk_in (a b : Int) (h1 : -9223372036854775808 ≤ a) (h2 : a ≤ 9223372036854775807) (h3 : -9223372036854775808 ≤ b) (h4 : b ≤ 9223372036854775807)
    (hb : b ≠ 0) (h : a ≠ -9223372036854775808 ∨ b ≠ -1) (w : World) :
    Calls Try.prog 8 #[.int .i64 a, .int .i64 b] w fun e w' => e = .returned (.bool true) ∧ Below w.heap.size w w' := by
  have C1 := scale_any a b b h1 h2 h3 h4 h3 h4 hb
  rw [back a b hb, smV_in h1 h2, smE_in h1 h2] at C1
  have C2 := div_in a b h1 h2 h3 h4 hb h
  have C3 := mod_in a b h3 h4 hb
  have he := Int.mul_fdiv_add_fmod a b
  rw [Int.mul_comm] at he
  have q1 : -9223372036854775808 ≤ a.fdiv b ∧ a.fdiv b ≤ 9223372036854775807 := by
    by_cases hz : a.tmod b = 0
    · rw [(Nm.keep hb (.inl hz)).1]; exact Nm.tdiv_bd h1 h2 hb h
    · have := Nm.tdiv_half h1 h2 (Nm.two_of_left hb hz)
      by_cases hs : a.tmod b < 0 ↔ b < 0
      · rw [(Nm.keep hb (.inr hs)).1]; omega
      · rw [(Nm.down hb hz hs).1]; omega
  have r1 : -9223372036854775808 ≤ a.fmod b ∧ a.fmod b ≤ 9223372036854775807 := by
    have bd := Nm.tmod_bd (a := a) hb
    by_cases hz : a.tmod b = 0
    · rw [(Nm.keep hb (.inl hz)).2]; omega
    · by_cases hs : a.tmod b < 0 ↔ b < 0
      · rw [(Nm.keep hb (.inr hs)).2]; omega
      · rw [(Nm.down hb hz hs).2]; omega
  have C4 := mul_any (a.fdiv b) b q1.1 q1.2 h3 h4
  have hb0 : (b == 0) = false := by rw [beq_eq_false_iff_ne]; exact hb
  generalize a.fdiv b = q at *
  generalize a.fmod b = r at *
  have H1 : Hid (∀ w : World, Calls Try.prog 22 #[.int .i64 a, .int .i64 b, .int .i64 b] w fun e w' => e = .returned (.tuple #[.int .i64 a, .int .i64 0]) ∧ Below w.heap.size w w') := C1
  have H2 : Hid (∀ w : World, Calls Try.prog 18 #[.int .i64 a, .int .i64 b] w fun e w' => e = .returned (.tuple #[.int .i64 q, .int .i64 0]) ∧ w' = w) := C2
  have H3 : Hid (∀ w : World, Calls Try.prog 20 #[.int .i64 a, .int .i64 b] w fun e w' => e = .returned (.tuple #[.int .i64 r, .int .i64 0]) ∧ w' = w) := C3
  by_cases hp : -9223372036854775808 ≤ q * b ∧ q * b ≤ 9223372036854775807
  · rw [smV_in hp.1 hp.2, smE_in hp.1 hp.2] at C4
    have C5 := add_in (q * b) r hp.1 hp.2 r1.1 r1.2 (by omega) (by omega)
    rw [he] at C5
    generalize q * b = p at *
    have H4 : Hid (∀ w : World, Calls Try.prog 16 #[.int .i64 q, .int .i64 b] w fun e w' => e = .returned (.tuple #[.int .i64 p, .int .i64 0]) ∧ Below w.heap.size w w') := C4
    have H5 : Hid (∀ w : World, Calls Try.prog 9 #[.int .i64 p, .int .i64 r] w fun e w' => e = .returned (.tuple #[.int .i64 a, .int .i64 0]) ∧ w' = w) := C5
    clear C1 C2 C3 C4 C5 he hp h hb q1 r1
    go_enter Try.func8, Try.ntmps8
    go_wp2_with fail
    refine (H1.out _).mono ?_
    rintro e w1 ⟨rfl, hb1⟩
    go_wp2_with fail
    refine (H2.out _).mono ?_
    rintro e w2 ⟨rfl, rfl⟩
    go_wp2_with fail
    refine (H3.out _).mono ?_
    rintro e w2 ⟨rfl, rfl⟩
    go_wp2_with fail
    refine (H4.out _).mono ?_
    rintro e w3 ⟨rfl, hb3⟩
    go_wp2_with fail
    refine (H5.out _).mono ?_
    rintro e w4 ⟨rfl, rfl⟩
    go_wp2_with fail
    refine (known_any _).mono ?_
    rintro e w5 ⟨rfl, hb5⟩
    go_wp2
    go_ret
    exact ⟨rfl, (hb1.trans (hb3.mono hb1.size)).trans (hb5.mono (Nat.le_trans hb1.size hb3.size))⟩
  · rw [smV_out (by omega), smE_out (by omega)] at C4
    have H4 : Hid (∀ w : World, Calls Try.prog 16 #[.int .i64 q, .int .i64 b] w fun e w' => e = .returned (.tuple #[.int .i64 0, .int .i64 10]) ∧ Below w.heap.size w w') := C4
    clear C1 C2 C3 C4 he hp h hb q1 r1
    go_enter Try.func8, Try.ntmps8
    go_wp2_with fail
    refine (H1.out _).mono ?_
    rintro e w1 ⟨rfl, hb1⟩
    go_wp2_with fail
    refine (H2.out _).mono ?_
    rintro e w2 ⟨rfl, rfl⟩
    go_wp2_with fail
    refine (H3.out _).mono ?_
    rintro e w2 ⟨rfl, rfl⟩
    go_wp2_with fail
    refine (H4.out _).mono ?_
    rintro e w3 ⟨rfl, hb3⟩
    go_wp2_with fail
    refine (known_any _).mono ?_
    rintro e w5 ⟨rfl, hb5⟩
    go_wp2
    go_ret
    exact ⟨rfl, (hb1.trans (hb3.mono hb1.size)).trans (hb5.mono (Nat.le_trans hb1.size hb3.size))⟩

theorem walk (a0 a1 : Int) (w0 : (Lit.int .i64 a0).wf = true) (w1 : (Lit.int .i64 a1).wf = true) (w : World) :
    Calls Try.prog 8 #[.int .i64 a0, .int .i64 a1] w fun e w' => e = .returned (.bool true) ∧ Below w.heap.size w w' := by
  obtain ⟨h1, h2⟩ := bounds_i64 w0
  obtain ⟨h3, h4⟩ := bounds_i64 w1
  by_cases hb : a1 = 0
  · subst hb; exact walk_zero a0 w
  · by_cases h : a0 ≠ -9223372036854775808 ∨ a1 ≠ -1
    · exact walk_in a0 a1 h1 h2 h3 h4 hb h w
    · obtain ⟨rfl, rfl⟩ : a0 = -9223372036854775808 ∧ a1 = -1 := by omega
      exact walk_edge w

/-! ### THE ROW's STEP: WRITTEN OUT: LEAVE IT -/
set_option maxRecDepth 100000 in
theorem lifted (os : Os) (started : os.Started) (H : Type) (enc : TypeId × Value → H) :
    ReturnsInHanded {} Try.checked os 8 .any (Rows.numBackSpec.pre6 enc Try.prog Try.f8 Rows.numBackRow.domain false) (Rows.numBackSpec.post enc Try.prog Try.f8 false true false false) := by
  refine returnsInHanded_of_change (C := Try.checked) own started (by kernel_rfl) Try.func8
    (ChangeSpec.witness6 (enc := enc) (C := Try.checked) false ⟨#[], #[.int .i64 0, .int .i64 0], []⟩ 8 (by kernel_rfl) (by kernel_rfl) (by kernel_rfl) (by kernel_rfl)) ?_
  intro W base args ds gs before hval0 hW hcnd _
  have hval : ∀ (j : Nat) t v, Try.f8.params[j]? = some t → args[j]? = some v → Value.okWide Try.prog W .any base t v := hval0
  have hW' := hW
  obtain ⟨p, q, hA0, hV, rfl, hfz, hnd⟩ := hW
  have hA : DataW.TrodAll enc Try.prog W 0 (fun _ => true) true Try.f8.params.toList args.toList ds p := hA0
  rw [Try.params8] at hA hval
  obtain ⟨v0, vs0, d0, ds0, p0, q0, hargs, rfl, rfl, h0, r0⟩ := trodAll_cons hA
  obtain ⟨v1, vs1, d1, ds1, p1, q1, rfl, rfl, rfl, h1, r1⟩ := trodAll_cons r0
  obtain ⟨rfl, rfl, rfl⟩ := trodAll_nil r1
  obtain rfl : args = #[v0, v1] := by cases args; simp_all
  obtain ⟨rfl, rfl⟩ := trodVars_none hV
  obtain ⟨a0, rfl, rfl, rfl, w0⟩ := open_int Try.underlying2 (hval 0 2 v0 rfl rfl) h0
  obtain ⟨a1, rfl, rfl, rfl, w1⟩ := open_int Try.underlying2 (hval 1 2 v1 rfl rfl) h1
  clear hA0 hval0
  simp only [List.append_nil] at hW'
  refine (walk a0 a1 w0 w1 W).mono fun e W' ⟨he, hg⟩ => ?_
  subst he
  exact ⟨_, rfl, _, _, _, [], [], [], hW', (trodAll_cons_mk (shut_bool Try.underlying4 _) trodAll_mk0), (trodAll_cons_mk (shut_int Try.underlying2 w0) (trodAll_cons_mk (shut_int Try.underlying2 w1) trodAll_mk0)), rfl, hg.frame _, fun h => by cases h⟩

theorem over : Rows.numBackRow.holds Try.pinned (OpenSpec.ofChange Rows.numBackSpec) :=
  OpenClaim.holds_of_wide 8 Try.f8 rfl rfl rfl rfl rfl rfl rfl ⟨rfl, rfl, rfl, rfl, rfl⟩ rfl rfl rfl rfl rfl (by kernel_rfl) Try.func8 (by kernel_rfl)
    (of_decide_eq_true (by kernel_rfl)) (by unfold Func.isWrapper; first | (rw [if_pos (by decide +kernel)]; kernel_rfl) | (rw [if_neg (by decide +kernel)]; exact ⟨rfl, rfl⟩))
    (fun os started H enc _ => lifted os started H enc)

theorem proved : Rows.NumBackSaid :=
  over
end Go.Proofs.Ytncpihfpfieahaa.numBack
