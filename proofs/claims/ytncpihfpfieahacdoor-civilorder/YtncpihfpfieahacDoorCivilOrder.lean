/- Months keep the order of days, no months change nothing, and back again it is the day if its day of the month is below 29: CivilOrder returns true for every three int64s, where the table of lengths is as the program's text lays it. -/
import Derived.Test.YtncpihfpfieahacDoorRows
import Derived.Test.YtncpihfpfieahacDoorCards
import Derived.Test.YtncpihfpfieahacDoorTie
import Derived.WalkKit
import Derived.ProofKit
import Derived.LaidMore
import Derived.OpenShut
import Derived.Stop.Joined
import Derived.Lib.LaidTab
import Derived.SevenTiedAt
import Derived.Test.YtncpihfpfieahacDoorCivK
import Derived.Test.YtncpihfpfieahacDoorCivH
namespace Go.Proofs.YtncpihfpfieahacDoor.civilOrder
open Go.ChangeShapes Go.WideShapes Go.ChangeAt Go.WideMaps Go.WideElems Go.RowKit
set_option linter.unusedVariables false

theorem own : ownKnob Tryd.prog.godebug = none := by kernel_rfl

theorem gLen : Tryd.prog.globalNamed "computus/civil.lengths" = some 0 := by kernel_rfl
theorem tLen : (Tryd.prog.globals[0]?).map (·.type) = some 40 := by kernel_rfl
theorem uLen : Tryd.prog.underlying 40 = some (.array 12 2) := by kernel_rfl
/-- what the listed variable gives the walks: the twelve lengths. -/
theorem of_laid {W : World} (h : laidMetH Tryd.prog Rows.civilOrderRow.laid W) : Lens W := by
  rw [MakeChecks.laidMetH_plain _ _ _ (by kernel_rfl)] at h
  have ht := Lib.tabIs_of_head (k := .i64) (zs := tabL) (rest := []) gLen tLen uLen Tryd.underlying2 (by kernel_rfl) (by kernel_rfl) h
  exact fun i hi => ht.cell gLen i hi

theorem door_met (os : Os) (args : Array Value) : laidMetH Tryd.prog Rows.civilOrderRow.laid ((World.doorLaid Tryd.prog 400 os).forCall (fun _ _ => 0) ⟨#[], args, []⟩).memory :=
  laidMetH_of_parts3 (fuel := 8) (laidMet_of_run' 8 (by kernel_rfl) (by kernel_rfl)) (by kernel_rfl) (by kernel_rfl)

theorem sh_ok {y m d k : Int} (h : shE y m d k = 0) : ∃ D, cut d (Cv.len ((12 * y + m - 1 + k) / 12) ((12 * y + m - 1 + k) % 12 + 1)) = D ∧ Cv.Is (shV y m d k) ((12 * y + m - 1 + k) / 12) ((12 * y + m - 1 + k) % 12 + 1) D ∧ can (shV y m d k) = true := by
  refine ⟨_, rfl, ?_⟩
  unfold shE at h
  unfold shV
  cases r : right ((12 * y + m - 1 + k) / 12) ((12 * y + m - 1 + k) % 12 + 1) (cut d (Cv.len ((12 * y + m - 1 + k) / 12) ((12 * y + m - 1 + k) % 12 + 1)))
  · rw [(day_no r).2] at h; exact absurd h (by decide)
  · rw [(day_yes r).1]; exact right_is r
theorem sh_01 (y m d k : Int) : shE y m d k = 0 ∨ shE y m d k = 10 := by
  unfold shE dayE
  split
  · exact .inl rfl
  · exact .inr rfl
theorem cut_mono {d e l : Int} (h : d ≤ e) : cut d l ≤ cut e l := by unfold cut; split <;> split <;> omega
theorem sh_order {a b y m d y' m' d' k : Int} (ha : Cv.Is a y m d) (hb : Cv.Is b y' m' d') (hab : a ≤ b) (e1 : shE y m d k = 0) (e2 : shE y' m' d' k = 0) : shV y m d k ≤ shV y' m' d' k := by
  obtain ⟨o1, o2⟩ := Cv.is_order ha hb hab
  obtain ⟨D, c1, i1, _⟩ := sh_ok e1
  obtain ⟨D', c2, i2, _⟩ := sh_ok e2
  have p := Cv.is_P i1
  have q := Cv.is_P i2
  have dd := i2.2.2.1
  rw [show 12 * ((12 * y + m - 1 + k) / 12) + ((12 * y + m - 1 + k) % 12 + 1) - 1 = 12 * y + m - 1 + k by omega] at p
  rw [show 12 * ((12 * y' + m' - 1 + k) / 12) + ((12 * y' + m' - 1 + k) % 12 + 1) - 1 = 12 * y' + m' - 1 + k by omega] at q
  by_cases c : 12 * y + m - 1 = 12 * y' + m' - 1
  · have hd := o2 c
    rw [← c] at c2 q
    have := cut_mono (l := Cv.len ((12 * y + m - 1 + k) / 12) ((12 * y + m - 1 + k) % 12 + 1)) hd
    omega
  · have := Cv.P_mono (a := 12 * y + m - 1 + k + 1) (b := 12 * y' + m' - 1 + k) (by omega)
    omega
theorem sh_zero {a y m d : Int} (h : can a = true) (ha : Cv.Is a y m d) : shV y m d 0 = a ∧ shE y m d 0 = 0 := by
  have m1 := ha.1
  have m2 := ha.2.1
  unfold shV shE
  rw [show (12 * y + m - 1 + 0) / 12 = y by omega, show (12 * y + m - 1 + 0) % 12 + 1 = m by omega, cut_le ha.2.2.2.1]
  have r := is_right h ha
  exact ⟨(day_yes r).1.trans ha.2.2.2.2.symm, (day_yes r).2⟩
theorem sh_back {a y m d k : Int} (h : can a = true) (ha : Cv.Is a y m d) (hd : d ≤ 28) : shV ((12 * y + m - 1 + k) / 12) ((12 * y + m - 1 + k) % 12 + 1) d (-k) = a ∧ shE ((12 * y + m - 1 + k) / 12) ((12 * y + m - 1 + k) % 12 + 1) d (-k) = 0 := by
  have z := sh_zero h ha
  unfold shV shE at z ⊢
  rw [show 12 * ((12 * y + m - 1 + k) / 12) + ((12 * y + m - 1 + k) % 12 + 1) - 1 + -k = 12 * y + m - 1 + 0 by omega]
  exact z
theorem sh_keep {y m d k : Int} (hd : d ≤ 28) : cut d (Cv.len ((12 * y + m - 1 + k) / 12) ((12 * y + m - 1 + k) % 12 + 1)) = d := by
  have := Cv.len_01 ((12 * y + m - 1 + k) / 12) ((12 * y + m - 1 + k) % 12 + 1) (by omega) (by omega)
  exact cut_le (by omega)
theorem sh_small {a y m d k : Int} (h : can a = true) (ha : Cv.Is a y m d) (e : shE y m d k = 0) : -3600000 ≤ k ∧ k ≤ 3600000 := by
  obtain ⟨n1, n2⟩ := of_can h
  obtain ⟨b1, b2⟩ := Cv.is_year ha
  obtain ⟨y1, y2⟩ := can_year n1 n2 b1 b2
  obtain ⟨D, _, i, c⟩ := sh_ok e
  obtain ⟨n1, n2⟩ := of_can c
  obtain ⟨b1, b2⟩ := Cv.is_year i
  obtain ⟨y3, y4⟩ := can_year n1 n2 b1 b2
  have m1 := ha.1
  have m2 := ha.2.1
  omega

/-- what Shift answers of any day. -/
theorem sh_some (b k : Int) : ∃ y f : Int, (∀ w : World, Lens w → Calls Tryd.prog 15 #[.int .i64 b, .int .i64 k] w fun x w' => x = .returned (.tuple #[.int .i64 y, .int .i64 f]) ∧ w' = w) ∧ (f = 10 ∨ (f = 0 ∧ ∃ p q r, Cv.Is b p q r ∧ y = shV p q r k ∧ shE p q r k = 0)) := by
  cases h : can b
  · exact ⟨0, 10, fun w _ => shift_no b k h w, .inl rfl⟩
  · obtain ⟨p, q, r, hd⟩ := Cv.is_date b
    refine ⟨shV p q r k, shE p q r k, fun w hw => shift_any b p q r k h hd w hw, ?_⟩
    rcases sh_01 p q r k with e | e
    · exact .inr ⟨e, p, q, r, hd, rfl, e⟩
    · exact .inl e

set_option maxHeartbeats 1000000 in
theorem walk_no (a b k y f : Int) (h : can a = false) (w : World) (hw : Lens w)
    (S2 : Hid (∀ w : World, Lens w → Calls Tryd.prog 15 #[.int .i64 b, .int .i64 k] w fun x w' => x = .returned (.tuple #[.int .i64 y, .int .i64 f]) ∧ w' = w)) :
    Calls Tryd.prog 4 #[.int .i64 a, .int .i64 b, .int .i64 k] w fun e w' => e = .returned (.bool true) ∧ Below w.heap.size w w' := by
  go_enter Tryd.func4, Tryd.ntmps4
  go_wp2_with fail
  refine (shift_no a k h _).mono ?_
  rintro e w1 ⟨rfl, rfl⟩
  go_wp2_with fail
  refine (S2.out _ hw).mono ?_
  rintro e w1 ⟨rfl, rfl⟩
  go_wp2_with fail
  refine (rcan_any _ _).mono ?_
  rintro e w1 ⟨rfl, rfl⟩
  go_wp2_with fail
  refine (date_no a h _).mono ?_
  rintro e w1 ⟨rfl, rfl⟩
  go_wp2_with fail
  refine (known_any _ hw).mono ?_
  rintro e w1 ⟨rfl, rfl⟩
  go_wp2
  go_ret
  exact ⟨rfl, Below.refl _ _⟩

set_option maxHeartbeats 1000000 in
theorem walk_out (a b k x y f p q r : Int) (h : can a = true) (w : World) (hw : Lens w)
    (S1 : Hid (∀ w : World, Lens w → Calls Tryd.prog 15 #[.int .i64 a, .int .i64 k] w fun z w' => z = .returned (.tuple #[.int .i64 x, .int .i64 10]) ∧ w' = w))
    (S2 : Hid (∀ w : World, Lens w → Calls Tryd.prog 15 #[.int .i64 b, .int .i64 k] w fun z w' => z = .returned (.tuple #[.int .i64 y, .int .i64 f]) ∧ w' = w))
    (S3 : Hid (∀ w : World, Lens w → Calls Tryd.prog 15 #[.int .i64 a, .int .i64 0] w fun z w' => z = .returned (.tuple #[.int .i64 a, .int .i64 0]) ∧ w' = w))
    (D1 : Hid (∀ w : World, Lens w → Calls Tryd.prog 7 #[.int .i64 a] w fun e w' => e = .returned (.tuple #[.int .i64 p, .int .i64 q, .int .i64 r, .int .i64 0]) ∧ w' = w)) :
    Calls Tryd.prog 4 #[.int .i64 a, .int .i64 b, .int .i64 k] w fun e w' => e = .returned (.bool true) ∧ Below w.heap.size w w' := by
  go_enter Tryd.func4, Tryd.ntmps4
  go_wp2_with fail
  refine (S1.out _ hw).mono ?_
  rintro e w1 ⟨rfl, rfl⟩
  go_wp2_with fail
  refine (S2.out _ hw).mono ?_
  rintro e w1 ⟨rfl, rfl⟩
  go_wp2_with fail
  refine (rcan_any _ _).mono ?_
  rintro e w1 ⟨rfl, rfl⟩
  go_wp2_with fail
  refine (S3.out _ hw).mono ?_
  rintro e w1 ⟨rfl, rfl⟩
  go_wp2_with fail
  refine (D1.out _ hw).mono ?_
  rintro e w1 ⟨rfl, rfl⟩
  go_wp2_with fail
  refine (known_any _ hw).mono ?_
  rintro e w1 ⟨rfl, rfl⟩
  go_wp2
  go_ret
  exact ⟨rfl, Below.refl _ _⟩

set_option maxHeartbeats 2000000 in
theorem walk_in (a b k x y f p q r : Int) (h : can a = true) (k1 : -3600000 ≤ k) (k2 : k ≤ 3600000) (hf : (f == 0) = false ∨ ((f == 0) = true ∧ ((a ≤ b ∧ x ≤ y) ∨ ¬ a ≤ b))) (w : World) (hw : Lens w)
    (S1 : Hid (∀ w : World, Lens w → Calls Tryd.prog 15 #[.int .i64 a, .int .i64 k] w fun z w' => z = .returned (.tuple #[.int .i64 x, .int .i64 0]) ∧ w' = w))
    (S2 : Hid (∀ w : World, Lens w → Calls Tryd.prog 15 #[.int .i64 b, .int .i64 k] w fun z w' => z = .returned (.tuple #[.int .i64 y, .int .i64 f]) ∧ w' = w))
    (S3 : Hid (∀ w : World, Lens w → Calls Tryd.prog 15 #[.int .i64 a, .int .i64 0] w fun z w' => z = .returned (.tuple #[.int .i64 a, .int .i64 0]) ∧ w' = w))
    (S4 : Hid (r ≤ 28 → ∀ w : World, Lens w → Calls Tryd.prog 15 #[.int .i64 x, .int .i64 (-k)] w fun z w' => z = .returned (.tuple #[.int .i64 a, .int .i64 0]) ∧ w' = w))
    (D1 : Hid (∀ w : World, Lens w → Calls Tryd.prog 7 #[.int .i64 a] w fun e w' => e = .returned (.tuple #[.int .i64 p, .int .i64 q, .int .i64 r, .int .i64 0]) ∧ w' = w)) :
    Calls Tryd.prog 4 #[.int .i64 a, .int .i64 b, .int .i64 k] w fun e w' => e = .returned (.bool true) ∧ Below w.heap.size w w' := by
  by_cases h28 : 28 < r
  · rcases hf with hf | ⟨hf, ⟨o1, o2⟩ | o1⟩
    all_goals
      go_enter Tryd.func4, Tryd.ntmps4
      go_wp2_with fail
      refine (S1.out _ hw).mono ?_
      rintro e w1 ⟨rfl, rfl⟩
      go_wp2_with fail
      refine (S2.out _ hw).mono ?_
      rintro e w1 ⟨rfl, rfl⟩
      go_wp2_with fail
      refine (rcan_any _ _).mono ?_
      rintro e w1 ⟨rfl, rfl⟩
      go_wp2_with fail
      refine (S3.out _ hw).mono ?_
      rintro e w1 ⟨rfl, rfl⟩
      go_wp2_with fail
      refine (D1.out _ hw).mono ?_
      rintro e w1 ⟨rfl, rfl⟩
      go_wp2_with fail
      refine (known_any _ hw).mono ?_
      rintro e w1 ⟨rfl, rfl⟩
      go_wp2
      go_ret
      exact ⟨rfl, Below.refl _ _⟩
  · have S5 := S4.out (by omega)
    have H5 : Hid (∀ w : World, Lens w → Calls Tryd.prog 15 #[.int .i64 x, .int .i64 (-k)] w fun z w' => z = .returned (.tuple #[.int .i64 a, .int .i64 0]) ∧ w' = w) := S5
    clear S5 S4
    rcases hf with hf | ⟨hf, ⟨o1, o2⟩ | o1⟩
    all_goals
      go_enter Tryd.func4, Tryd.ntmps4
      go_wp2_with fail
      refine (S1.out _ hw).mono ?_
      rintro e w1 ⟨rfl, rfl⟩
      go_wp2_with fail
      refine (S2.out _ hw).mono ?_
      rintro e w1 ⟨rfl, rfl⟩
      go_wp2_with fail
      refine (rcan_any _ _).mono ?_
      rintro e w1 ⟨rfl, rfl⟩
      go_wp2_with fail
      refine (S3.out _ hw).mono ?_
      rintro e w1 ⟨rfl, rfl⟩
      go_wp2_with fail
      refine (D1.out _ hw).mono ?_
      rintro e w1 ⟨rfl, rfl⟩
      go_wp2_with fail
      refine (H5.out _ hw).mono ?_
      rintro e w1 ⟨rfl, rfl⟩
      go_wp2_with fail
      refine (known_any _ hw).mono ?_
      rintro e w1 ⟨rfl, rfl⟩
      go_wp2
      go_ret
      exact ⟨rfl, Below.refl _ _⟩

theorem walk (a0 a1 a2 : Int) (w0 : (Lit.int .i64 a0).wf = true) (w1 : (Lit.int .i64 a1).wf = true) (w2 : (Lit.int .i64 a2).wf = true) (w : World) (hw : Lens w) :
    Calls Tryd.prog 4 #[.int .i64 a0, .int .i64 a1, .int .i64 a2] w fun e w' => e = .returned (.bool true) ∧ Below w.heap.size w w' := by
  obtain ⟨y, f, C2, hf⟩ := sh_some a1 a2
  cases h : can a0
  · exact walk_no a0 a1 a2 y f h w hw C2
  · obtain ⟨p, q, r, hd⟩ := Cv.is_date a0
    have z := sh_zero h hd
    have C1 := fun (w : World) (hw : Lens w) => shift_any a0 p q r a2 h hd w hw
    have C3 : ∀ w : World, Lens w → Calls Tryd.prog 15 #[.int .i64 a0, .int .i64 0] w fun x w' => x = .returned (.tuple #[.int .i64 a0, .int .i64 0]) ∧ w' = w := by
      intro w hw
      have c := shift_any a0 p q r 0 h hd w hw
      rw [z.1, z.2] at c
      exact c
    have D := fun (w : World) (hw : Lens w) => date_yes a0 p q r h hd w hw
    rcases sh_01 p q r a2 with e | e
    · have s := sh_small h hd e
      obtain ⟨D', c1, i1, cn⟩ := sh_ok e
      rw [e] at C1
      refine walk_in a0 a1 a2 (shV p q r a2) y f p q r h s.1 s.2 ?_ w hw C1 C2 C3 ?_ D
      · rcases hf with rfl | ⟨rfl, p', q', r', hb, rfl, e'⟩
        · exact .inl rfl
        · refine .inr ⟨rfl, ?_⟩
          by_cases o : a0 ≤ a1
          · exact .inl ⟨o, sh_order hd hb o e e'⟩
          · exact .inr o
      · intro h28 w hw
        rw [sh_keep h28] at c1
        rw [← c1] at i1
        have c := shift_any _ _ _ _ (-a2) cn i1 w hw
        have b := sh_back (k := a2) h hd h28
        rw [b.1, b.2] at c
        exact c
    · rw [e] at C1
      exact walk_out a0 a1 a2 (shV p q r a2) y f p q r h w hw C1 C2 C3 D

set_option maxRecDepth 100000 in
theorem lifted (os : Os) (started : os.Started) (H : Type) (enc : TypeId × Value → H) :
    ReturnsInHanded {} Tryd.checked os 4 .any (fun w args => (Rows.civilOrderSpec.pre enc Tryd.prog Tryd.f4 [] false w args ∧ laidMetH Tryd.prog Rows.civilOrderRow.laid w) ∧ sizedMet enc Tryd.prog Tryd.f4 (OpenSpec.ofChange Rows.civilOrderSpec) false w args)
      (Rows.civilOrderSpec.post enc Tryd.prog Tryd.f4 false true false false) := by
  refine returnsInHanded_of_change_and (C := Tryd.checked) (X := fun w _ => laidMetH Tryd.prog Rows.civilOrderRow.laid w) (fun _ _ _ hh h => h.of_heap hh) own started (by kernel_rfl) Tryd.func4
    (ChangeSpec.witness_shaped (enc := enc) (C := Tryd.checked) (os := os) (X := fun w _ => laidMetH Tryd.prog Rows.civilOrderRow.laid w) false (World.doorLaid Tryd.prog 400 os) #[.int .i64 0, .int .i64 0, .int .i64 0] 8 rfl (World.shaped_of_RefB (by kernel_rfl) (by kernel_rfl)) (by kernel_rfl) (by kernel_rfl) (by kernel_rfl) (door_met os _)) ?_
  intro W base args ds gs before hval0 hW _ _ hL _
  have hval : ∀ (j : Nat) t v, Tryd.f4.params[j]? = some t → args[j]? = some v → Value.okWide Tryd.prog W .any base t v := hval0
  have hW' := hW
  obtain ⟨p, q, hA0, hV, rfl, hfz, hnd⟩ := hW
  have hA : DataW.TrodAll enc Tryd.prog W 0 (fun _ => true) true Tryd.f4.params.toList args.toList ds p := hA0
  rw [Tryd.params4] at hA hval
  obtain ⟨v0, vs0, d0, ds0, p0, q0, hargs, rfl, rfl, h0, r0⟩ := trodAll_cons hA
  obtain ⟨v1, vs1, d1, ds1, p1, q1, rfl, rfl, rfl, h1, r1⟩ := trodAll_cons r0
  obtain ⟨v2, vs2, d2, ds2, p2, q2, rfl, rfl, rfl, h2, r2⟩ := trodAll_cons r1
  obtain ⟨rfl, rfl, rfl⟩ := trodAll_nil r2
  obtain rfl : args = #[v0, v1, v2] := by cases args; simp_all
  obtain ⟨rfl, rfl⟩ := trodVars_none hV
  obtain ⟨a0, rfl, rfl, rfl, w0⟩ := open_int Tryd.underlying2 (hval 0 2 v0 rfl rfl) h0
  obtain ⟨a1, rfl, rfl, rfl, w1⟩ := open_int Tryd.underlying2 (hval 1 2 v1 rfl rfl) h1
  obtain ⟨a2, rfl, rfl, rfl, w2⟩ := open_int Tryd.underlying2 (hval 2 2 v2 rfl rfl) h2
  clear hA0 hval0
  simp only [List.append_nil] at hW'
  refine (walk a0 a1 a2 w0 w1 w2 W (of_laid hL)).mono fun e W' ⟨he, hg⟩ => ?_
  subst he
  exact ⟨_, rfl, _, _, _, [], [], [], hW', (trodAll_cons_mk (shut_bool Tryd.underlying4 _) trodAll_mk0), (trodAll_cons_mk (shut_int Tryd.underlying2 w0) (trodAll_cons_mk (shut_int Tryd.underlying2 w1) (trodAll_cons_mk (shut_int Tryd.underlying2 w2) trodAll_mk0))), rfl, hg.frame _, fun h => by cases h⟩

theorem over : Rows.civilOrderRow.holds Tryd.pinned (OpenSpec.ofChange Rows.civilOrderSpec) :=
  OpenClaim.holds_of_wide 4 Tryd.f4 rfl rfl rfl rfl rfl rfl rfl ⟨rfl, rfl, rfl, rfl, rfl⟩ rfl rfl rfl rfl rfl (by kernel_rfl) Tryd.func4 (by kernel_rfl)
    (of_decide_eq_true (by kernel_rfl)) (by unfold Func.isWrapper; first | (rw [if_pos (by decide +kernel)]; kernel_rfl) | (rw [if_neg (by decide +kernel)]; exact ⟨rfl, rfl⟩))
    (fun os started H enc _ => lifted os started H enc)


theorem proved : Rows.CivilOrderCardSaid :=
  Claim7.holds_tied_plain_at .later [] [.data] true (true, "31f9e0f5730f06514bb473ce12f11faffe47c9f6893aaa077d8ff4a673a2002e") false
    over (fun _ h => by cases h) (by kernel_rfl) (fun _ h => by cases h) civilOrder_row_tie rfl ⟨rfl, rfl⟩ (by kernel_rfl) rfl
    (fun f fn hf hfn => by
      obtain rfl : f = 4 := Option.some.inj ((show Tryd.prog.funcNamed Rows.civilOrderRow.func = some 4 by kernel_rfl).symm.trans hf) |>.symm
      obtain rfl : fn = Tryd.f4 := (Option.some.inj (Tryd.func4.symm.trans hfn)).symm
      exact ⟨by kernel_rfl, fun j t ht => by
        rw [Tryd.params4] at ht
        have hm : t ∈ [2] := by simpa using Array.mem_of_getElem? ht
        have hall : ([2].all fun u => !Tryd.prog.wantsStandIn u) = true := by kernel_rfl
        exact (show Tryd.prog.wantsStandIn t = false by simpa using List.all_eq_true.1 hall t hm)⟩)
    (by kernel_rfl)
end Go.Proofs.YtncpihfpfieahacDoor.civilOrder
