/- A date that can be is that of its day, and the next day is the next date: CivilBack returns true for every int64, where the table of lengths is as the program's text lays it. -/
import Derived.Test.YtncpihfpfieahacDoorRows
import Derived.Test.YtncpihfpfieahacDoorCards
import Derived.Test.YtncpihfpfieahacDoorTie
import Derived.WalkKit
import Derived.ProofKit
import Derived.LaidMore
import Derived.OpenShut
import Derived.Stop.Joined
import Derived.Lib.LaidTab
import Derived.SevenTiedAt
import Derived.Test.YtncpihfpfieahacDoorCivK
import Derived.Test.YtncpihfpfieahacDoorCivH
namespace Go.Proofs.YtncpihfpfieahacDoor.civilBack
open Go.ChangeShapes Go.WideShapes Go.ChangeAt Go.WideMaps Go.WideElems Go.RowKit
set_option linter.unusedVariables false

theorem own : ownKnob Tryd.prog.godebug = none := by kernel_rfl

theorem gLen : Tryd.prog.globalNamed "computus/civil.lengths" = some 0 := by kernel_rfl
theorem tLen : (Tryd.prog.globals[0]?).map (·.type) = some 40 := by kernel_rfl
theorem uLen : Tryd.prog.underlying 40 = some (.array 12 2) := by kernel_rfl
/-- what the listed variable gives the walks: the twelve lengths. -/
theorem of_laid {W : World} (h : laidMetH Tryd.prog Rows.civilBackRow.laid W) : Lens W := by
  rw [MakeChecks.laidMetH_plain _ _ _ (by kernel_rfl)] at h
  have ht := Lib.tabIs_of_head (k := .i64) (zs := tabL) (rest := []) gLen tLen uLen Tryd.underlying2 (by kernel_rfl) (by kernel_rfl) h
  exact fun i hi => ht.cell gLen i hi

theorem door_met (os : Os) (args : Array Value) : laidMetH Tryd.prog Rows.civilBackRow.laid ((World.doorLaid Tryd.prog 400 os).forCall (fun _ _ => 0) ⟨#[], args, []⟩).memory :=
  laidMetH_of_parts3 (fuel := 8) (laidMet_of_run' 8 (by kernel_rfl) (by kernel_rfl)) (by kernel_rfl) (by kernel_rfl)

set_option maxHeartbeats 1000000 in
theorem walk_no (n : Int) (h : can n = false) (w : World) (hw : Lens w) :
    Calls Tryd.prog 3 #[.int .i64 n] w fun e w' => e = .returned (.bool true) ∧ Below w.heap.size w w' := by
  go_enter Tryd.func3, Tryd.ntmps3
  go_wp2_with fail
  refine (date_no n h _).mono ?_
  rintro e w1 ⟨rfl, rfl⟩
  go_wp2_with fail
  refine (rcan_any _ _).mono ?_
  rintro e w1 ⟨rfl, rfl⟩
  go_wp2_with fail
  refine (known_any _ hw).mono ?_
  rintro e w1 ⟨rfl, rfl⟩
  go_wp2
  go_ret
  exact ⟨rfl, Below.refl _ _⟩

set_option maxHeartbeats 1000000 in
theorem walk_last (n y m d : Int) (h : can n = true) (hd : Cv.Is n y m d) (hn : n = 106754173) (w : World) (hw : Lens w) :
    Calls Tryd.prog 3 #[.int .i64 n] w fun e w' => e = .returned (.bool true) ∧ Below w.heap.size w w' := by
  subst hn
  have D1 : Hid (∀ w : World, Lens w → Calls Tryd.prog 7 #[.int .i64 106754173] w fun e w' => e = .returned (.tuple #[.int .i64 y, .int .i64 m, .int .i64 d, .int .i64 0]) ∧ w' = w) := fun w hw => date_yes _ y m d h hd w hw
  have D2 : Hid (∀ w : World, Lens w → Calls Tryd.prog 10 #[.int .i64 y, .int .i64 m, .int .i64 d] w fun e w' => e = .returned (.tuple #[.int .i64 106754173, .int .i64 0]) ∧ w' = w) := fun w hw => kd y m d _ (is_right h hd) hd.2.2.2.2.symm w hw
  have D3 : Hid (∀ w : World, Lens w → Calls Tryd.prog 11 #[.int .i64 y, .int .i64 m, .int .i64 d] w fun e w' => e = .returned (.bool true) ∧ w' = w) := by
    intro w hw; rw [← is_right h hd]; exact right_any y m d w hw
  have D4 : Hid (∀ w : World, Calls Tryd.prog 7 #[.int .i64 106754174] w fun e w' => e = .returned (.tuple #[.int .i64 0, .int .i64 0, .int .i64 0, .int .i64 10]) ∧ w' = w) := fun w => date_no 106754174 (by decide) w
  clear hd h
  go_enter Tryd.func3, Tryd.ntmps3
  go_wp2_with fail
  refine (D1.out _ hw).mono ?_
  rintro e w1 ⟨rfl, rfl⟩
  go_wp2_with fail
  refine (D2.out _ hw).mono ?_
  rintro e w1 ⟨rfl, rfl⟩
  go_wp2_with fail
  refine (D3.out _ hw).mono ?_
  rintro e w1 ⟨rfl, rfl⟩
  go_wp2_with fail
  refine (D4.out _).mono ?_
  rintro e w1 ⟨rfl, rfl⟩
  go_wp2_with fail
  refine (last_any _).mono ?_
  rintro e w1 ⟨rfl, rfl⟩
  go_wp2_with fail
  refine (known_any _ hw).mono ?_
  rintro e w1 ⟨rfl, rfl⟩
  go_wp2
  go_ret
  exact ⟨rfl, Below.refl _ _⟩

set_option maxHeartbeats 1000000 in
theorem walk_in (n y m d p q r v1 v2 : Int) (n1 : -2453698 ≤ n) (n2 : n < 106754173) (w : World) (hw : Lens w)
    (D1 : Hid (∀ w : World, Lens w → Calls Tryd.prog 7 #[.int .i64 n] w fun e w' => e = .returned (.tuple #[.int .i64 y, .int .i64 m, .int .i64 d, .int .i64 0]) ∧ w' = w))
    (D2 : Hid (∀ w : World, Lens w → Calls Tryd.prog 10 #[.int .i64 y, .int .i64 m, .int .i64 d] w fun e w' => e = .returned (.tuple #[.int .i64 n, .int .i64 0]) ∧ w' = w))
    (D3 : Hid (∀ w : World, Lens w → Calls Tryd.prog 11 #[.int .i64 y, .int .i64 m, .int .i64 d] w fun e w' => e = .returned (.bool true) ∧ w' = w))
    (D4 : Hid (∀ w : World, Lens w → Calls Tryd.prog 7 #[.int .i64 (n + 1)] w fun e w' => e = .returned (.tuple #[.int .i64 p, .int .i64 q, .int .i64 r, .int .i64 0]) ∧ w' = w))
    (D5 : Hid (∀ w : World, Calls Tryd.prog 14 #[.int .i64 n] w fun e w' => e = .returned (.int .i64 v1) ∧ w' = w))
    (D6 : Hid (∀ w : World, Calls Tryd.prog 14 #[.int .i64 (n + 1)] w fun e w' => e = .returned (.int .i64 v2) ∧ w' = w))
    (u1 : 0 ≤ v1) (u2 : v1 < 7) (u3 : (v1 + 1) % 7 = v2) (m1 : 1 ≤ m) (m2 : m ≤ 12) (d1 : 1 ≤ d) (d2 : d ≤ 31) (y1 : -4718 ≤ y) (y2 : y ≤ 294282)
    (hnext : Hid ((p = y ∧ q = m ∧ r = d + 1) ∨ (p = y ∧ q = m + 1 ∧ r = 1 ∧ d = Cv.len y m) ∨ (p = y + 1 ∧ q = 1 ∧ r = 1 ∧ m = 12 ∧ d = 31))) :
    Calls Tryd.prog 3 #[.int .i64 n] w fun e w' => e = .returned (.bool true) ∧ Below w.heap.size w w' := by
  rcases hnext.out with ⟨rfl, rfl, rfl⟩ | ⟨rfl, rfl, rfl, hl⟩ | ⟨rfl, rfl, rfl, rfl, rfl⟩
  · clear hnext
    go_enter Tryd.func3, Tryd.ntmps3
    go_wp2_with fail
    refine (D1.out _ hw).mono ?_
    rintro e w1 ⟨rfl, rfl⟩
    go_wp2_with fail
    refine (D2.out _ hw).mono ?_
    rintro e w1 ⟨rfl, rfl⟩
    go_wp2_with fail
    refine (D3.out _ hw).mono ?_
    rintro e w1 ⟨rfl, rfl⟩
    go_wp2_with fail
    refine (D4.out _ hw).mono ?_
    rintro e w1 ⟨rfl, rfl⟩
    go_wp2_with fail
    refine (D6.out _).mono ?_
    rintro e w1 ⟨rfl, rfl⟩
    go_wp2_with fail
    refine (D5.out _).mono ?_
    rintro e w1 ⟨rfl, rfl⟩
    go_wp2_with fail
    refine (known_any _ hw).mono ?_
    rintro e w1 ⟨rfl, rfl⟩
    go_wp2
    go_ret
    exact ⟨rfl, Below.refl _ _⟩
  · have t1 : (m + 1 == m) = false := by rw [beq_eq_false_iff_ne]; omega
    have L1 : Hid (∀ w : World, Lens w → Calls Tryd.prog 13 #[.int .i64 p, .int .i64 m] w fun e w' => e = .returned (.int .i64 d) ∧ w' = w) := by
      intro w hw; rw [hl]; exact len_any p m w hw
    clear hnext hl
    go_enter Tryd.func3, Tryd.ntmps3
    go_wp2_with fail
    refine (D1.out _ hw).mono ?_
    rintro e w1 ⟨rfl, rfl⟩
    go_wp2_with fail
    refine (D2.out _ hw).mono ?_
    rintro e w1 ⟨rfl, rfl⟩
    go_wp2_with fail
    refine (D3.out _ hw).mono ?_
    rintro e w1 ⟨rfl, rfl⟩
    go_wp2_with fail
    refine (D4.out _ hw).mono ?_
    rintro e w1 ⟨rfl, rfl⟩
    go_wp2_with fail
    refine (L1.out _ hw).mono ?_
    rintro e w1 ⟨rfl, rfl⟩
    go_wp2_with fail
    refine (D6.out _).mono ?_
    rintro e w1 ⟨rfl, rfl⟩
    go_wp2_with fail
    refine (D5.out _).mono ?_
    rintro e w1 ⟨rfl, rfl⟩
    go_wp2_with fail
    refine (known_any _ hw).mono ?_
    rintro e w1 ⟨rfl, rfl⟩
    go_wp2
    go_ret
    exact ⟨rfl, Below.refl _ _⟩
  · have t1 : (y + 1 == y) = false := by rw [beq_eq_false_iff_ne]; omega
    clear hnext
    go_enter Tryd.func3, Tryd.ntmps3
    go_wp2_with fail
    refine (D1.out _ hw).mono ?_
    rintro e w1 ⟨rfl, rfl⟩
    go_wp2_with fail
    refine (D2.out _ hw).mono ?_
    rintro e w1 ⟨rfl, rfl⟩
    go_wp2_with fail
    refine (D3.out _ hw).mono ?_
    rintro e w1 ⟨rfl, rfl⟩
    go_wp2_with fail
    refine (D4.out _ hw).mono ?_
    rintro e w1 ⟨rfl, rfl⟩
    go_wp2_with fail
    refine (D6.out _).mono ?_
    rintro e w1 ⟨rfl, rfl⟩
    go_wp2_with fail
    refine (D5.out _).mono ?_
    rintro e w1 ⟨rfl, rfl⟩
    go_wp2_with fail
    refine (known_any _ hw).mono ?_
    rintro e w1 ⟨rfl, rfl⟩
    go_wp2
    go_ret
    exact ⟨rfl, Below.refl _ _⟩

theorem walk (a0 : Int) (w0 : (Lit.int .i64 a0).wf = true) (w : World) (hw : Lens w) :
    Calls Tryd.prog 3 #[.int .i64 a0] w fun e w' => e = .returned (.bool true) ∧ Below w.heap.size w w' := by
  cases h : can a0
  · exact walk_no a0 h w hw
  · obtain ⟨y, m, d, hd⟩ := Cv.is_date a0
    obtain ⟨n1, n2⟩ := of_can h
    obtain ⟨b1, b2⟩ := Cv.is_year hd
    obtain ⟨y1, y2⟩ := can_year n1 n2 b1 b2
    by_cases hl : a0 = 106754173
    · exact walk_last a0 y m d h hd hl w hw
    · have h' : can (a0 + 1) = true := can_yes (by omega) (by omega)
      have lb := Cv.len_bd y m
      have key : ∀ p q r, Cv.Is (a0 + 1) p q r → ((p = y ∧ q = m ∧ r = d + 1) ∨ (p = y ∧ q = m + 1 ∧ r = 1 ∧ d = Cv.len y m) ∨ (p = y + 1 ∧ q = 1 ∧ r = 1 ∧ m = 12 ∧ d = 31)) →
          Calls Tryd.prog 3 #[.int .i64 a0] w fun e w' => e = .returned (.bool true) ∧ Below w.heap.size w w' := fun p q r hi hn =>
        walk_in a0 y m d p q r ((a0 + 6) % 7) ((a0 + 1 + 6) % 7) n1 (by omega) w hw (fun w hw => date_yes a0 y m d h hd w hw) (fun w hw => kd y m d a0 (is_right h hd) hd.2.2.2.2.symm w hw)
          (fun w hw => by rw [← is_right h hd]; exact right_any y m d w hw) (fun w hw => date_yes (a0 + 1) p q r h' hi w hw) (fun w => weekday_any a0 w) (fun w => weekday_any (a0 + 1) w)
          (by omega) (by omega) (by omega) hd.1 hd.2.1 hd.2.2.1 (by have := hd.2.2.2.1; omega) y1 y2 hn
      by_cases c : d < Cv.len y m
      · exact key y m (d + 1) (Cv.next_in hd c) (.inl ⟨rfl, rfl, rfl⟩)
      · have e : d = Cv.len y m := by have := hd.2.2.2.1; omega
        by_cases c2 : m < 12
        · exact key y (m + 1) 1 (Cv.next_mon hd e c2) (.inr (.inl ⟨rfl, rfl, rfl, e⟩))
        · have e2 : m = 12 := by have := hd.2.1; omega
          have nx := Cv.next_year hd e e2
          exact key (y + 1) 1 1 nx.1 (.inr (.inr ⟨rfl, rfl, rfl, e2, nx.2⟩))

set_option maxRecDepth 100000 in
theorem lifted (os : Os) (started : os.Started) (H : Type) (enc : TypeId × Value → H) :
    ReturnsInHanded {} Tryd.checked os 3 .any (fun w args => (Rows.civilBackSpec.pre enc Tryd.prog Tryd.f3 [] false w args ∧ laidMetH Tryd.prog Rows.civilBackRow.laid w) ∧ sizedMet enc Tryd.prog Tryd.f3 (OpenSpec.ofChange Rows.civilBackSpec) false w args)
      (Rows.civilBackSpec.post enc Tryd.prog Tryd.f3 false true false false) := by
  refine returnsInHanded_of_change_and (C := Tryd.checked) (X := fun w _ => laidMetH Tryd.prog Rows.civilBackRow.laid w) (fun _ _ _ hh h => h.of_heap hh) own started (by kernel_rfl) Tryd.func3
    (ChangeSpec.witness_shaped (enc := enc) (C := Tryd.checked) (os := os) (X := fun w _ => laidMetH Tryd.prog Rows.civilBackRow.laid w) false (World.doorLaid Tryd.prog 400 os) #[.int .i64 0] 8 rfl (World.shaped_of_RefB (by kernel_rfl) (by kernel_rfl)) (by kernel_rfl) (by kernel_rfl) (by kernel_rfl) (door_met os _)) ?_
  intro W base args ds gs before hval0 hW _ _ hL _
  have hval : ∀ (j : Nat) t v, Tryd.f3.params[j]? = some t → args[j]? = some v → Value.okWide Tryd.prog W .any base t v := hval0
  have hW' := hW
  obtain ⟨p, q, hA0, hV, rfl, hfz, hnd⟩ := hW
  have hA : DataW.TrodAll enc Tryd.prog W 0 (fun _ => true) true Tryd.f3.params.toList args.toList ds p := hA0
  rw [Tryd.params3] at hA hval
  obtain ⟨v0, vs0, d0, ds0, p0, q0, hargs, rfl, rfl, h0, r0⟩ := trodAll_cons hA
  obtain ⟨rfl, rfl, rfl⟩ := trodAll_nil r0
  obtain rfl : args = #[v0] := by cases args; simp_all
  obtain ⟨rfl, rfl⟩ := trodVars_none hV
  obtain ⟨a0, rfl, rfl, rfl, w0⟩ := open_int Tryd.underlying2 (hval 0 2 v0 rfl rfl) h0
  clear hA0 hval0
  simp only [List.append_nil] at hW'
  refine (walk a0 w0 W (of_laid hL)).mono fun e W' ⟨he, hg⟩ => ?_
  subst he
  exact ⟨_, rfl, _, _, _, [], [], [], hW', (trodAll_cons_mk (shut_bool Tryd.underlying4 _) trodAll_mk0), (trodAll_cons_mk (shut_int Tryd.underlying2 w0) trodAll_mk0), rfl, hg.frame _, fun h => by cases h⟩

theorem over : Rows.civilBackRow.holds Tryd.pinned (OpenSpec.ofChange Rows.civilBackSpec) :=
  OpenClaim.holds_of_wide 3 Tryd.f3 rfl rfl rfl rfl rfl rfl rfl ⟨rfl, rfl, rfl, rfl, rfl⟩ rfl rfl rfl rfl rfl (by kernel_rfl) Tryd.func3 (by kernel_rfl)
    (of_decide_eq_true (by kernel_rfl)) (by unfold Func.isWrapper; first | (rw [if_pos (by decide +kernel)]; kernel_rfl) | (rw [if_neg (by decide +kernel)]; exact ⟨rfl, rfl⟩))
    (fun os started H enc _ => lifted os started H enc)


theorem proved : Rows.CivilBackCardSaid :=
  Claim7.holds_tied_plain_at .later [] [.data] true (true, "31f9e0f5730f06514bb473ce12f11faffe47c9f6893aaa077d8ff4a673a2002e") false
    over (fun _ h => by cases h) (by kernel_rfl) (fun _ h => by cases h) civilBack_row_tie rfl ⟨rfl, rfl⟩ (by kernel_rfl) rfl
    (fun f fn hf hfn => by
      obtain rfl : f = 3 := Option.some.inj ((show Tryd.prog.funcNamed Rows.civilBackRow.func = some 3 by kernel_rfl).symm.trans hf) |>.symm
      obtain rfl : fn = Tryd.f3 := (Option.some.inj (Tryd.func3.symm.trans hfn)).symm
      exact ⟨by kernel_rfl, fun j t ht => by
        rw [Tryd.params3] at ht
        have hm : t ∈ [2] := by simpa using Array.mem_of_getElem? ht
        have hall : ([2].all fun u => !Tryd.prog.wantsStandIn u) = true := by kernel_rfl
        exact (show Tryd.prog.wantsStandIn t = false by simpa using List.all_eq_true.1 hall t hm)⟩)
    (by kernel_rfl)
end Go.Proofs.YtncpihfpfieahacDoor.civilBack
