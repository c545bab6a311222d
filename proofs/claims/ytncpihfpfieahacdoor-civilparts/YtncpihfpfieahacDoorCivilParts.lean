/- The weeks of a year are 52 or 53, its days 365 or 366, and the same weekday comes again behind seven days: CivilParts returns true for every int, where the table of lengths is as the program's text lays it. -/
import Derived.Test.YtncpihfpfieahacDoorRows
import Derived.Test.YtncpihfpfieahacDoorCards
import Derived.Test.YtncpihfpfieahacDoorTie
import Derived.WalkKit
import Derived.ProofKit
import Derived.LaidMore
import Derived.OpenShut
import Derived.Stop.Joined
import Derived.Lib.LaidTab
import Derived.SevenTiedAt
import Derived.Test.YtncpihfpfieahacDoorCivK
import Derived.Test.YtncpihfpfieahacDoorCivH
namespace Go.Proofs.YtncpihfpfieahacDoor.civilParts
open Go.ChangeShapes Go.WideShapes Go.ChangeAt Go.WideMaps Go.WideElems Go.RowKit
set_option linter.unusedVariables false

theorem own : ownKnob Tryd.prog.godebug = none := by kernel_rfl

theorem gLen : Tryd.prog.globalNamed "computus/civil.lengths" = some 0 := by kernel_rfl
theorem tLen : (Tryd.prog.globals[0]?).map (·.type) = some 40 := by kernel_rfl
theorem uLen : Tryd.prog.underlying 40 = some (.array 12 2) := by kernel_rfl
/-- what the listed variable gives the walks: the twelve lengths. -/
theorem of_laid {W : World} (h : laidMetH Tryd.prog Rows.civilPartsRow.laid W) : Lens W := by
  rw [MakeChecks.laidMetH_plain _ _ _ (by kernel_rfl)] at h
  have ht := Lib.tabIs_of_head (k := .i64) (zs := tabL) (rest := []) gLen tLen uLen Tryd.underlying2 (by kernel_rfl) (by kernel_rfl) h
  exact fun i hi => ht.cell gLen i hi

theorem door_met (os : Os) (args : Array Value) : laidMetH Tryd.prog Rows.civilPartsRow.laid ((World.doorLaid Tryd.prog 400 os).forCall (fun _ _ => 0) ⟨#[], args, []⟩).memory :=
  laidMetH_of_parts3 (fuel := 8) (laidMet_of_run' 8 (by kernel_rfl) (by kernel_rfl)) (by kernel_rfl) (by kernel_rfl)

set_option maxHeartbeats 400000 in
theorem count_any (k : Int) (w : World) :
    Calls Tryd.prog 17 #[.int .i64 k, .int .i64 100000000] w fun e w' => e = .returned (.int .i64 (k % 100000000)) ∧ w' = w := by
  have bd := Nm.tmod_bd (a := k) (b := 100000000) (by decide)
  by_cases h : k.tmod 100000000 < 0
  · have hq : Hid (k % 100000000 = k.tmod 100000000 + 100000000) := mod_up (by decide) h
    have l1 : -100000000 ≤ k.tmod 100000000 := by omega
    clear bd
    go_enter Tryd.func17, Tryd.ntmps17
    go_wp2
    go_ret
    exact ⟨ret_int hq.out.symm, rfl⟩
  · have hq : Hid (k % 100000000 = k.tmod 100000000) := mod_same (by decide) h
    clear bd
    go_enter Tryd.func17, Tryd.ntmps17
    go_wp2
    go_ret
    exact ⟨ret_int hq.out.symm, rfl⟩

set_option maxHeartbeats 1000000 in
theorem walk_of (k c n y m d a q v : Int) (c1 : 0 ≤ c) (c2 : c < 100000000) (hn : -2453698 + c = n) (w : World) (hw : Lens w)
    (a1 : 1 ≤ a) (a2 : a ≤ 365 + Cv.lp y) (v1 : 1 ≤ v) (v2 : v ≤ 53) (e7 : (n + 7 + 6) % 7 = (n + 6) % 7)
    (H0 : Hid (∀ w : World, Calls Tryd.prog 17 #[.int .i64 k, .int .i64 100000000] w fun x w' => x = .returned (.int .i64 c) ∧ w' = w))
    (H1 : Hid (∀ w : World, Calls Tryd.prog 18 #[.int .i64 n] w fun x w' => x = .returned (.tuple #[.int .i64 a, .int .i64 0]) ∧ w' = w))
    (H2 : Hid (∀ w : World, Calls Tryd.prog 19 #[.int .i64 n] w fun x w' => x = .returned (.tuple #[.int .i64 q, .int .i64 v, .int .i64 0]) ∧ w' = w))
    (H3 : Hid (∀ w : World, Lens w → Calls Tryd.prog 7 #[.int .i64 n] w fun e w' => e = .returned (.tuple #[.int .i64 y, .int .i64 m, .int .i64 d, .int .i64 0]) ∧ w' = w)) :
    Calls Tryd.prog 5 #[.int .i64 k] w fun e w' => e = .returned (.bool true) ∧ Below w.heap.size w w' := by
  have n1 : -2453698 ≤ n := by omega
  have n2 : n ≤ 97546302 := by omega
  have H4 : Hid (∀ w : World, Calls Tryd.prog 14 #[.int .i64 (n + 7)] w fun x w' => x = .returned (.int .i64 ((n + 6) % 7)) ∧ w' = w) := by
    intro w; rw [← e7]; exact weekday_any (n + 7) w
  clear e7
  cases hl : Cv.leap y
  · have a3 : a ≤ 365 := by have := lp_false hl; omega
    clear a2
    go_enter Tryd.func5, Tryd.ntmps5
    go_wp2_with fail
    refine (first_any _).mono ?_
    rintro e w1 ⟨rfl, rfl⟩
    go_wp2_with fail
    refine (H0.out _).mono ?_
    rintro e w1 ⟨rfl, rfl⟩
    go_wp2_with fail
    refine (H1.out _).mono ?_
    rintro e w1 ⟨rfl, rfl⟩
    go_wp2_with fail
    refine (H2.out _).mono ?_
    rintro e w1 ⟨rfl, rfl⟩
    go_wp2_with fail
    refine (H3.out _ hw).mono ?_
    rintro e w1 ⟨rfl, rfl⟩
    go_wp2_with fail
    refine (leap_any _ _).mono ?_
    rintro e w1 ⟨rfl, rfl⟩
    go_wp2_with fail
    refine (weekday_any _ _).mono ?_
    rintro e w1 ⟨rfl, rfl⟩
    go_wp2_with fail
    refine (H4.out _).mono ?_
    rintro e w1 ⟨rfl, rfl⟩
    go_wp2_with fail
    refine (known_any _ hw).mono ?_
    rintro e w1 ⟨rfl, rfl⟩
    go_wp2
    go_ret
    exact ⟨rfl, Below.refl _ _⟩
  · have a3 : a ≤ 366 := by have := lp_true hl; omega
    clear a2
    go_enter Tryd.func5, Tryd.ntmps5
    go_wp2_with fail
    refine (first_any _).mono ?_
    rintro e w1 ⟨rfl, rfl⟩
    go_wp2_with fail
    refine (H0.out _).mono ?_
    rintro e w1 ⟨rfl, rfl⟩
    go_wp2_with fail
    refine (H1.out _).mono ?_
    rintro e w1 ⟨rfl, rfl⟩
    go_wp2_with fail
    refine (H2.out _).mono ?_
    rintro e w1 ⟨rfl, rfl⟩
    go_wp2_with fail
    refine (H3.out _ hw).mono ?_
    rintro e w1 ⟨rfl, rfl⟩
    go_wp2_with fail
    refine (leap_any _ _).mono ?_
    rintro e w1 ⟨rfl, rfl⟩
    go_wp2_with fail
    refine (weekday_any _ _).mono ?_
    rintro e w1 ⟨rfl, rfl⟩
    go_wp2_with fail
    refine (H4.out _).mono ?_
    rintro e w1 ⟨rfl, rfl⟩
    go_wp2_with fail
    refine (known_any _ hw).mono ?_
    rintro e w1 ⟨rfl, rfl⟩
    go_wp2
    go_ret
    exact ⟨rfl, Below.refl _ _⟩

theorem walk (a0 : Int) (w0 : (Lit.int .i64 a0).wf = true) (w : World) (hw : Lens w) :
    Calls Tryd.prog 5 #[.int .i64 a0] w fun e w' => e = .returned (.bool true) ∧ Below w.heap.size w w' := by
  obtain ⟨n, hn⟩ : ∃ n, -2453698 + a0 % 100000000 = n := ⟨_, rfl⟩
  have h : can n = true := can_yes (by omega) (by omega)
  obtain ⟨y, m, d, hd⟩ := Cv.is_date n
  obtain ⟨b1, b2⟩ := Cv.is_year hd
  have s := Cv.S_succ y
  obtain ⟨q, q1, q2⟩ := Cv.year_is (thu n)
  have sq := Cv.S_succ q
  have lq := Cv.lp_01 q
  exact walk_of a0 (a0 % 100000000) n y m d (n - Cv.S y + 1) q ((thu n - Cv.S q) / 7 + 1) (by omega) (by omega) hn w hw (by omega) (by omega) (by omega) (by omega) (by omega)
    (fun w => count_any a0 w) (fun w => yday_yes n y h b1 b2 w) (fun w => week_yes n q h q1 q2 w) (fun w hw => date_yes n y m d h hd w hw)

set_option maxRecDepth 100000 in
theorem lifted (os : Os) (started : os.Started) (H : Type) (enc : TypeId × Value → H) :
    ReturnsInHanded {} Tryd.checked os 5 .any (fun w args => (Rows.civilPartsSpec.pre enc Tryd.prog Tryd.f5 [] false w args ∧ laidMetH Tryd.prog Rows.civilPartsRow.laid w) ∧ sizedMet enc Tryd.prog Tryd.f5 (OpenSpec.ofChange Rows.civilPartsSpec) false w args)
      (Rows.civilPartsSpec.post enc Tryd.prog Tryd.f5 false true false false) := by
  refine returnsInHanded_of_change_and (C := Tryd.checked) (X := fun w _ => laidMetH Tryd.prog Rows.civilPartsRow.laid w) (fun _ _ _ hh h => h.of_heap hh) own started (by kernel_rfl) Tryd.func5
    (ChangeSpec.witness_shaped (enc := enc) (C := Tryd.checked) (os := os) (X := fun w _ => laidMetH Tryd.prog Rows.civilPartsRow.laid w) false (World.doorLaid Tryd.prog 400 os) #[.int .i64 0] 8 rfl (World.shaped_of_RefB (by kernel_rfl) (by kernel_rfl)) (by kernel_rfl) (by kernel_rfl) (by kernel_rfl) (door_met os _)) ?_
  intro W base args ds gs before hval0 hW _ _ hL _
  have hval : ∀ (j : Nat) t v, Tryd.f5.params[j]? = some t → args[j]? = some v → Value.okWide Tryd.prog W .any base t v := hval0
  have hW' := hW
  obtain ⟨p, q, hA0, hV, rfl, hfz, hnd⟩ := hW
  have hA : DataW.TrodAll enc Tryd.prog W 0 (fun _ => true) true Tryd.f5.params.toList args.toList ds p := hA0
  rw [Tryd.params5] at hA hval
  obtain ⟨v0, vs0, d0, ds0, p0, q0, hargs, rfl, rfl, h0, r0⟩ := trodAll_cons hA
  obtain ⟨rfl, rfl, rfl⟩ := trodAll_nil r0
  obtain rfl : args = #[v0] := by cases args; simp_all
  obtain ⟨rfl, rfl⟩ := trodVars_none hV
  obtain ⟨a0, rfl, rfl, rfl, w0⟩ := open_int Tryd.underlying3 (hval 0 3 v0 rfl rfl) h0
  clear hA0 hval0
  simp only [List.append_nil] at hW'
  refine (walk a0 w0 W (of_laid hL)).mono fun e W' ⟨he, hg⟩ => ?_
  subst he
  exact ⟨_, rfl, _, _, _, [], [], [], hW', (trodAll_cons_mk (shut_bool Tryd.underlying4 _) trodAll_mk0), (trodAll_cons_mk (shut_int Tryd.underlying3 w0) trodAll_mk0), rfl, hg.frame _, fun h => by cases h⟩

theorem over : Rows.civilPartsRow.holds Tryd.pinned (OpenSpec.ofChange Rows.civilPartsSpec) :=
  OpenClaim.holds_of_wide 5 Tryd.f5 rfl rfl rfl rfl rfl rfl rfl ⟨rfl, rfl, rfl, rfl, rfl⟩ rfl rfl rfl rfl rfl (by kernel_rfl) Tryd.func5 (by kernel_rfl)
    (of_decide_eq_true (by kernel_rfl)) (by unfold Func.isWrapper; first | (rw [if_pos (by decide +kernel)]; kernel_rfl) | (rw [if_neg (by decide +kernel)]; exact ⟨rfl, rfl⟩))
    (fun os started H enc _ => lifted os started H enc)


theorem proved : Rows.CivilPartsCardSaid :=
  Claim7.holds_tied_plain_at .later [] [.data] true (true, "31f9e0f5730f06514bb473ce12f11faffe47c9f6893aaa077d8ff4a673a2002e") false
    over (fun _ h => by cases h) (by kernel_rfl) (fun _ h => by cases h) civilParts_row_tie rfl ⟨rfl, rfl⟩ (by kernel_rfl) rfl
    (fun f fn hf hfn => by
      obtain rfl : f = 5 := Option.some.inj ((show Tryd.prog.funcNamed Rows.civilPartsRow.func = some 5 by kernel_rfl).symm.trans hf) |>.symm
      obtain rfl : fn = Tryd.f5 := (Option.some.inj (Tryd.func5.symm.trans hfn)).symm
      exact ⟨by kernel_rfl, fun j t ht => by
        rw [Tryd.params5] at ht
        have hm : t ∈ [3] := by simpa using Array.mem_of_getElem? ht
        have hall : ([3].all fun u => !Tryd.prog.wantsStandIn u) = true := by kernel_rfl
        exact (show Tryd.prog.wantsStandIn t = false by simpa using List.all_eq_true.1 hall t hm)⟩)
    (by kernel_rfl)
end Go.Proofs.YtncpihfpfieahacDoor.civilParts
