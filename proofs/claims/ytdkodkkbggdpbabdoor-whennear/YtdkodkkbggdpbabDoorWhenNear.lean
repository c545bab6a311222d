/- A day that is said by a weekday has it, and is within six days of where it may be: WhenNear returns true for every year, month and day as it is said, where the table of the months' lengths is as the program's text lays it. -/
import Derived.Test.YtdkodkkbggdpbabDoorRows
import Derived.Test.YtdkodkkbggdpbabDoorCards
import Derived.Test.YtdkodkkbggdpbabDoorTie
import Derived.WalkKit
import Derived.ProofKit
import Derived.LaidMore
import Derived.OpenShut
import Derived.ShutString
import Derived.Stop.Joined
import Derived.Lib.LaidTab
import Derived.Lib.SmallJoins
import Derived.Stop.LaidErr
import Derived.Lay
import Derived.SevenTiedAt
import Derived.ChangeMaps5
import Derived.SizedLaws
import Derived.Lib.LaidU8T
import Derived.Test.YtdkodkkbggdpbabDoorLwWhenNear
namespace Go.Proofs.YtdkodkkbggdpbabDoor.whenNear
open Go.ChangeShapes Go.WideShapes Go.ChangeAt Go.WideMaps Go.WideElems Go.RowKit
set_option linter.unusedVariables false

theorem own : ownKnob Tryd.prog.godebug = none := by kernel_rfl

theorem gLen : Tryd.prog.globalNamed "computus/civil.lengths" = some 0 := by kernel_rfl
theorem tLen : (Tryd.prog.globals[0]?).map (·.type) = some 117 := by kernel_rfl
theorem uLen : Tryd.prog.underlying 117 = some (.array 12 2) := by kernel_rfl
/-- what the listed variable gives the walks: the twelve lengths. -/
theorem of_laid {W : World} (h : laidMetH Tryd.prog Rows.whenNearRow.laid W) : Cvl.Lens W := by
  rw [MakeChecks.laidMetH_plain _ _ _ (by kernel_rfl)] at h
  have ht := Lib.tabIs_of_head (k := .i64) (zs := Cvl.tabL) gLen tLen uLen Tryd.underlying2 (by kernel_rfl) (by kernel_rfl) h
  exact fun i hi => ht.cell gLen i hi

theorem door_met (os : Os) (args : Array Value) : laidMetH Tryd.prog Rows.whenNearRow.laid (((World.doorLaid Tryd.prog 400 os)).forCall (fun _ _ => 0) ⟨#[], args, []⟩).memory :=
  laidMetH_of_parts3 (fuel := 8) (laidMet_of_run' 8 (by kernel_rfl) (by kernel_rfl)) (by kernel_rfl) (by kernel_rfl)

theorem bk_wd (n d : Int) (d1 : 0 ≤ d) (d2 : d ≤ 6) : (bk n d + 6) % 7 = d := by unfold bk; omega

theorem walk (y : Int) (wy : (Lit.int .i64 y).wf = true) (m : Int) (wm : (Lit.int .i64 m).wf = true) (k d n : Int) (wk : (Lit.int .i64 k).wf = true) (wd : (Lit.int .i64 d).wf = true) (wn : (Lit.int .i64 n).wf = true) (w : World) (hL : Cvl.Lens w) :
    Calls Tryd.prog 8 #[.int .i64 y, .int .i64 m, .agg #[.int .i64 k, .int .i64 d, .int .i64 n]] w fun e w' => e = .returned (.bool true) ∧ Below w.heap.size w w' := by
  have C1 := fun (w : World) (h : Cvl.Lens w) => day_any y m k d n w h
  by_cases ha : dyA m k d n
  · by_cases hy : dyY y
    · have eV : dyV y m k d n = dayN (fst1 y m) (Cv.len y m) k d n := by unfold dyV; rw [if_pos ha, if_pos hy]
      have eE : dyE y m k d n = 0 := by unfold dyE; rw [if_pos ha, if_pos hy]
      rw [eV, eE] at C1
      obtain ⟨ho, m1, m2⟩ := ha
      have bd := fst1_bd hy m1 m2
      have lb := Cv.len_bd y m
      have hr := first_right (y := y) hy m1 m2
      have DY : Hid (∀ w : World, Calls Tryd.prog 28 #[.int .i64 y, .int .i64 m, .int .i64 1] w fun e w' => e = .returned (.tuple #[.int .i64 (fst1 y m), .int .i64 0]) ∧ w' = w) := fun w => by
        have R := Cvl.rdays_yes y m 1 hr w
        rw [show Cv.S y + Cv.cum y m + 1 - 1 = fst1 y m by unfold fst1; omega] at R
        exact R
      have LN : Hid (∀ w : World, Calls Tryd.prog 29 #[.int .i64 y, .int .i64 m] w fun e w' => e = .returned (.int .i64 (Cv.len y m)) ∧ w' = w) := fun w => Cvl.rlen_any y m w
      have WD : ∀ v : Int, 0 ≤ d → d ≤ 6 → Hid (∀ w : World, Calls Tryd.prog 30 #[.int .i64 (bk v d)] w fun e w' => e = .returned (.int .i64 d) ∧ Below w.heap.size w w') := fun v d1 d2 w => by
        have R := Cvl.rweekday_any (bk v d) w
        rw [bk_wd v d d1 d2] at R
        exact R.mono (by rintro e w' ⟨he, rfl⟩; exact ⟨he, Below.refl _ _⟩)
      generalize fst1 y m = F at *
      generalize Cv.len y m = L at *
      rcases ho with ⟨rfl, a1, a2, rfl⟩ | ⟨rfl, a1, a2, rfl⟩ | ⟨rfl | rfl, a1, a2, a3, a4⟩
      · exact core_WhenNear_0 y m 0 n _ F (by omega) (by omega) (by omega) a2 (by show _ ≤ F + n - 1; omega) (by show F + n - 1 ≤ _; omega) rfl (given_any _ _ _) C1 DY known_any w hL
      · have b := bk_bd (F + L - 1) d
        exact core_WhenNear_1 y m d 0 (bk (F + L - 1) d) F L lb.1 lb.2 (by omega) (by omega) (by omega) (by omega) (by omega) (by omega) (by omega) (by omega) (given_any _ _ _) C1 DY LN (WD _ a1 a2) known_any w hL
      · have b := bk_bd (F + n - 1 + 7 - 1) d
        exact core_WhenNear_2 y m d n (bk (F + n - 1 + 7 - 1) d) F (by omega) (by omega) (by omega) a4 (by omega) (by omega) (by omega) (by omega) (given_any _ _ _) C1 DY (WD _ a1 a2) known_any w hL
      · have b := bk_bd (F + n - 1) d
        exact core_WhenNear_3 y m d n (bk (F + n - 1) d) F (by omega) (by omega) (by omega) a4 (by omega) (by omega) (by omega) (by omega) (given_any _ _ _) C1 DY (WD _ a1 a2) known_any w hL
    · have eV : dyV y m k d n = 0 := by unfold dyV; rw [if_pos ha, if_neg hy]
      have eE : dyE y m k d n = 10 := by unfold dyE; rw [if_pos ha, if_neg hy]
      rw [eV, eE] at C1
      exact core_WhenNear_out y m k d n 10 (by decide) (given_any _ _ _) C1 known_any w hL
  · have eV : dyV y m k d n = 0 := by unfold dyV; rw [if_neg ha]
    have eE : dyE y m k d n = 1 := by unfold dyE; rw [if_neg ha]
    rw [eV, eE] at C1
    exact core_WhenNear_out y m k d n 1 (by decide) (given_any _ _ _) C1 known_any w hL

set_option maxRecDepth 100000 in
theorem lifted (os : Os) (started : os.Started) (H : Type) (enc : TypeId × Value → H) :
    ReturnsInHanded {} Tryd.checked os 8 .any (fun w args => (Rows.whenNearSpec.pre enc Tryd.prog Tryd.f8 [] false w args ∧ laidMetH Tryd.prog Rows.whenNearRow.laid w) ∧ sizedMet enc Tryd.prog Tryd.f8 (OpenSpec.ofChange Rows.whenNearSpec) false w args)
      (Rows.whenNearSpec.post enc Tryd.prog Tryd.f8 false true false false) := by
  refine returnsInHanded_of_change_and (C := Tryd.checked) (X := fun w _ => laidMetH Tryd.prog Rows.whenNearRow.laid w) (fun _ _ _ hh h => h.of_heap hh) own started (by kernel_rfl) Tryd.func8
    (ChangeSpec.witness_shaped (enc := enc) (C := Tryd.checked) (os := os) (X := fun w _ => laidMetH Tryd.prog Rows.whenNearRow.laid w) false (World.doorLaid Tryd.prog 400 os) #[.int .i64 0, .int .i64 0, .agg #[.int .i64 0, .int .i64 0, .int .i64 0]] 8 rfl (World.shaped_of_RefB (by kernel_rfl) (by kernel_rfl)) (by kernel_rfl) (by kernel_rfl) (by kernel_rfl) (door_met os _)) ?_
  intro W base args ds gs before hval0 hW _ _ hL _
  have hval : ∀ (j : Nat) t v, Tryd.f8.params[j]? = some t → args[j]? = some v → Value.okWide Tryd.prog W .any base t v := hval0
  have hW' := hW
  obtain ⟨p, q, hA0, hV, rfl, hfz, hnd⟩ := hW
  have hA : DataW.TrodAll enc Tryd.prog W 0 (fun _ => true) true Tryd.f8.params.toList args.toList ds p := hA0
  rw [Tryd.params8] at hA hval
  obtain ⟨v0, vs0, d0, ds0, p0, q0, ha0, rfl, rfl, h0, r0⟩ := trodAll_cons hA
  obtain ⟨v1, vs1, d1, ds1, p1, q1, ha1, rfl, rfl, h1, r1⟩ := trodAll_cons r0
  obtain ⟨v2, vs2, d2, ds2, p2, q2, ha2, rfl, rfl, h2, r2⟩ := trodAll_cons r1
  obtain ⟨rfl, rfl, rfl⟩ := trodAll_nil r2
  subst ha2
  subst ha1
  obtain rfl : args = #[v0, v1, v2] := by cases args; simp_all
  obtain ⟨rfl, rfl⟩ := trodVars_none hV
  obtain ⟨a0, rfl, rfl, rfl, w0⟩ := open_int Tryd.underlying2 (hval 0 2 v0 rfl rfl) h0
  obtain ⟨a1, rfl, rfl, rfl, w1⟩ := open_int Tryd.underlying2 (hval 1 2 v1 rfl rfl) h1
  obtain ⟨c2_0, c2_1, c2_2, y2_0, y2_1, y2_2, m2, rfl, rfl, rfl, hy2_0, hy2_1, hy2_2⟩ := Joins.open_agg3 Tryd.underlying35 (by kernel_rfl) (show Tryd.prog.cellsOf 35 = 3 by kernel_rfl) (hval 2 35 v2 rfl rfl) h2
  obtain ⟨n2_0, i2_0, rfl, wn2_0⟩ := DataW.trod_int Tryd.underlying3 hy2_0
  simp at i2_0
  subst i2_0
  obtain ⟨n2_1, i2_1, rfl, wn2_1⟩ := DataW.trod_int Tryd.underlying2 hy2_1
  simp at i2_1
  subst i2_1
  obtain ⟨n2_2, i2_2, rfl, wn2_2⟩ := DataW.trod_int Tryd.underlying2 hy2_2
  simp at i2_2
  subst i2_2
  clear hA0 hval0
  simp only [List.append_nil] at hW'
  refine (walk a0 w0 a1 w1 n2_0 n2_1 n2_2 wn2_0 wn2_1 wn2_2 W (of_laid hL)).mono fun e W' ⟨he, hg⟩ => ?_
  subst he
  exact ⟨_, rfl, _, _, _, [], [], [], hW', (trodAll_cons_mk (shut_bool Tryd.underlying4 _) trodAll_mk0), (trodAll_cons_mk (shut_int Tryd.underlying2 w0) (trodAll_cons_mk (shut_int Tryd.underlying2 w1) (trodAll_cons_mk ((Joins.shut_agg3 (y0 := (.lit (.int .i64 n2_0), [])) (y1 := (.lit (.int .i64 n2_1), [])) (y2 := (.lit (.int .i64 n2_2), [])) Tryd.underlying35 (by kernel_rfl) (show Tryd.prog.cellsOf 35 = 3 by kernel_rfl) ⟨1, by simp [DataW.trod, Tryd.underlying3, wn2_0]⟩ ⟨1, by simp [DataW.trod, Tryd.underlying2, wn2_1]⟩ ⟨1, by simp [DataW.trod, Tryd.underlying2, wn2_2]⟩)) trodAll_mk0))), rfl, hg.frame _, fun h => by cases h⟩

theorem over : Rows.whenNearRow.holds Tryd.pinned (OpenSpec.ofChange Rows.whenNearSpec) :=
  OpenClaim.holds_of_wide 8 Tryd.f8 rfl rfl rfl rfl rfl rfl rfl ⟨rfl, rfl, rfl, rfl, rfl⟩ rfl rfl rfl rfl rfl (by kernel_rfl) Tryd.func8 (by kernel_rfl)
    (of_decide_eq_true (by kernel_rfl)) (by unfold Func.isWrapper; first | (rw [if_pos (by decide +kernel)]; kernel_rfl) | (rw [if_neg (by decide +kernel)]; exact ⟨rfl, rfl⟩))
    (fun os started H enc _ => lifted os started H enc)

theorem proved : Rows.WhenNearCardSaid :=
  Claim7.holds_tied_plain_at .later [] [.data] true (true, "8edcfaed265ccf5d3c17db6e93bb3864eaf7efcf27b2903e9957bd8adba36318") true
    over (fun _ h => by cases h) (by kernel_rfl) (fun _ h => by cases h) whenNear_row_tie rfl ⟨rfl, rfl⟩ (by kernel_rfl) rfl
    (fun f fn hf hfn => by
      obtain rfl : f = 8 := Option.some.inj ((show Tryd.prog.funcNamed Rows.whenNearRow.func = some 8 by kernel_rfl).symm.trans hf) |>.symm
      obtain rfl : fn = Tryd.f8 := (Option.some.inj (Tryd.func8.symm.trans hfn)).symm
      exact ⟨by kernel_rfl, fun j t ht => by
        rw [Tryd.params8] at ht
        have hm : t ∈ [2, 35] := by simpa using Array.mem_of_getElem? ht
        have hall : ([2, 35].all fun u => !Tryd.prog.wantsStandIn u) = true := by kernel_rfl
        exact (show Tryd.prog.wantsStandIn t = false by simpa using List.all_eq_true.1 hall t hm)⟩)
    (by kernel_rfl)
end Go.Proofs.YtdkodkkbggdpbabDoor.whenNear
