/- Year, month, day, hour, minute and microseconds of a stamp make it again, and its epoch is its microseconds: OpsMakes returns true for every stamp. -/
import Derived.Test.YtofmmdfdiaahhaaGreatDoorRows
import Derived.Test.YtofmmdfdiaahhaaGreatDoorCards
import Derived.Test.YtofmmdfdiaahhaaGreatDoorTie
import Derived.WalkKit
import Derived.ProofKit
import Derived.LaidMore
import Derived.OpenShut
import Derived.ShutString
import Derived.Stop.Joined
import Derived.Lib.LaidTab
import Derived.Lib.SmallJoins
import Derived.Stop.LaidErr
import Derived.Lay
import Derived.SevenTiedAt
import Derived.ChangeMaps5
import Derived.SizedLaws
import Derived.Lib.LaidU8T
import Derived.Shelf.Vars
import Derived.Test.YtofmmdfdiaahhaaGreatDoorLwOpsMakesq
namespace Go.Proofs.YtofmmdfdiaahhaaGreatDoor.opsMakes
open Go.ChangeShapes Go.WideShapes Go.ChangeAt Go.WideMaps Go.WideElems Go.RowKit
set_option linter.unusedVariables false

theorem own : ownKnob Tryz.prog.godebug = none := by kernel_rfl

theorem gLen : Tryz.prog.globalNamed "computus/civil.lengths" = some 1 := by kernel_rfl
theorem tLen : (Tryz.prog.globals[1]?).map (·.type) = some 152 := by kernel_rfl
theorem uLen : Tryz.prog.underlying 152 = some (.array 12 2) := by kernel_rfl
theorem gOps : Tryz.prog.globalNamed "computus/ops.lengths" = some 0 := by kernel_rfl
theorem tOps : (Tryz.prog.globals[0]?).map (·.type) = some 95 := by kernel_rfl
theorem uOps : Tryz.prog.underlying 95 = some (.array 6 2) := by kernel_rfl
/-- what the listed variables give the walks: the lengths of months and of fields. -/
theorem of_laid {W : World} (h : laidMetH Tryz.prog Rows.opsMakesRow.laid W) : LO W := by
  rw [MakeChecks.laidMetH_plain _ _ _ (by kernel_rfl)] at h
  have ht := Lib.tabIs_of_head (k := .i64) (zs := Cvl.tabL) (rest := _) gLen tLen uLen Tryz.underlying2 (by kernel_rfl) (by kernel_rfl) h
  have ho := Lib.tabIs_of_head (k := .i64) (zs := opTab) gOps tOps uOps Tryz.underlying2 (by kernel_rfl) (by kernel_rfl) h.tail.tail.tail.tail
  exact ⟨fun i hi => ht.cell gLen i hi, fun i hi => ho.cell gOps i hi⟩

theorem door_met (os : Os) (args : Array Value) : laidMetH Tryz.prog Rows.opsMakesRow.laid (((World.doorLaid Tryz.prog 400 os)).forCall (fun _ _ => 0) ⟨#[], args, []⟩).memory :=
  laidMetH_of_parts3 (fuel := 8) (laidMet_of_run' 8 (by kernel_rfl) (by kernel_rfl)) (by kernel_rfl) (by kernel_rfl)

theorem dec_any (n s : Int) (c : Bool) (hc : c = decide (0 ≤ s ∧ s ≤ 9)) (w : World) : Calls Tryz.prog 19 #[.agg #[.int .i64 n, .int .i64 s]] w fun r w' => r = .returned (.bool c) ∧ Below w.heap.size w w' := by
  have HB : Hid (Below w.heap.size w (w.alloc (.cells #[.int .i64 n, .int .i64 s] 45))) := (Below.refl _ _).alloc (Nat.le_refl _) _
  by_cases h1 : 0 ≤ s
  · by_cases h2 : s ≤ 9
    · obtain rfl : c = true := by rw [hc]; exact decide_eq_true ⟨h1, h2⟩
      clear hc
      go_enter Tryz.func19, Tryz.ntmps19
      go_wp2
      go_ret
      exact ⟨rfl, HB.out⟩
    · obtain rfl : c = false := by rw [hc]; exact decide_eq_false (fun q => h2 q.2)
      clear hc
      go_enter Tryz.func19, Tryz.ntmps19
      go_wp2
      go_ret
      exact ⟨rfl, HB.out⟩
  · obtain rfl : c = false := by rw [hc]; exact decide_eq_false (fun q => h1 q.1)
    clear hc
    go_enter Tryz.func19, Tryz.ntmps19
    go_wp2
    go_ret
    exact ⟨rfl, HB.out⟩

theorem walk (i u : Int) (wi : (Lit.int .i64 i).wf = true) (wu : (Lit.int .i64 u).wf = true) (w : World) (hL : LO w) :
    Calls Tryz.prog 6 #[.agg #[.int .i64 i, .int .i64 u]] w fun r w' => r = .returned (.bool true) ∧ Below w.heap.size w w' := by
  obtain ⟨u1, u2⟩ := bounds_i64 wu
  have KN : ∀ w : World, LO w → _ := fun w hw => known_any w hw
  have hLL := LO.of hL
  by_cases hi : i = 0
  · subst hi
    have RR := fun w => Dy.rrst_any 0 u u1 u2 w
    cases hr : Dy.sR 0 u
    · rw [hr] at RR
      exact mk_no u RR KN w hLL
    · rw [hr] at RR
      have hd : Dy.dok (u / 86400000000) = true := hr
      have kd := Dy.dok_yes hd
      obtain ⟨y, m, q, hq⟩ := Cv.is_date (u / 86400000000)
      have yb := year_bd hq hd
      have RV : ∀ w : World, Cvl.Lens w → _ := fun w hw => rv_st 0 u (fun w hw => rsR hr u1 u2 w hw) w (Dy.lens_of hw)
      have OF : ∀ w : World, Cvl.Lens w → _ := fun w hw => of_in hd w hw
      have PA : ∀ w : World, Cvl.Lens w → _ := fun w hw => Dy.parts_any 0 (u / 86400000000) y m q 0 (.inr (.inr ⟨rfl, hd, hq, rfl⟩)) w hw
      have d1 : 0 ≤ u % 86400000000 := by omega
      have d2 : u % 86400000000 < 86400000000 := by omega
      have NB : ∀ (t : ByteArray) (ht : t.size ≤ maxLen) (f : Int) (hf : fldN t 19 = f) (f0 : 0 ≤ f) (f1 : f ≠ 18) (f2 : f ≠ 13) (f3 : f ≠ 14) (f4 : f ≠ 15) (f5 : f ≠ 16) (f6 : f ≠ 6) (n sc e : Int)
          (OS : ∀ w : World, Cvl.Lens w → Calls Tryz.prog 43 #[.int .i64 f, .agg #[.int .i64 0, .int .i64 u]] w fun r' w' => r' = .returned (.tuple #[.agg #[.int .i64 n, .int .i64 sc], .int .i64 e]) ∧ Below w.heap.size w w')
          (w : World) (hw : Cvl.Lens w), Calls Tryz.prog 17 #[.agg utL.toArray, .string t, .agg (v_st 0 u).toArray] w fun r' w' => r' = .returned (.tuple #[.agg #[.int .i64 n, .int .i64 sc], .int .i64 e]) ∧ Below w.heap.size w w' := by
        intro t ht f hf f0 f1 f2 f3 f4 f5 f6 n sc e OS w hw
        have GW := fun w => gw_all f 6 f1 f2 f3 f4 f5 f6 w
        rw [show decide ((6 : Int) ∈ ([5, 6, 7, 8] : List Int)) = true by decide] at GW
        exact ex_st t u f n sc e RV (fun w => named_19 t ht f hf f true (by omega) (by simp; omega) w) GW OS w (Dy.lens_of hw)
      have NUM : ∀ (t : ByteArray) (ht : t.size ≤ maxLen) (f : Int) (hf : fldN t 19 = f) (f0 : 0 ≤ f) (f1 : f ≠ 18) (f2 : f ≠ 13) (f3 : f ≠ 14) (f4 : f ≠ 15) (f5 : f ≠ 16) (f6 : f ≠ 6) (n sc e : Int)
          (OS : ∀ w : World, Cvl.Lens w → Calls Tryz.prog 43 #[.int .i64 f, .agg #[.int .i64 0, .int .i64 u]] w fun r' w' => r' = .returned (.tuple #[.agg #[.int .i64 n, .int .i64 sc], .int .i64 e]) ∧ Below w.heap.size w w')
          (w : World) (hw : LO w), Calls Tryz.prog 14 #[.string t, .agg #[.int .i64 0, .int .i64 u]] w fun r' w' => r' = .returned (.int .i64 n) ∧ Below w.heap.size w w' :=
        fun t ht f hf f0 f1 f2 f3 f4 f5 f6 n sc e OS w hw => number_run t u n sc e (fun w hw => NB t ht f hf f0 f1 f2 f3 f4 f5 f6 n sc e OS w hw) w (Dy.lens_of hw.1)
      have WH := fun n w => whole_any n w
      have NY := NUM ⟨#[121, 101, 97, 114]⟩ (by decide) 9 (by decide +kernel) (by decide) (by decide) (by decide) (by decide) (by decide) (by decide) (by decide) (shY y) 0 0 (fun w hw => os_9 u _ _ _ OF (fun w hw => od_9 _ y m q _ PA (fun w => oy_9 y (by omega) (by omega) w) w (Dy.lens_of hw)) (WH _) w (Dy.lens_of hw))
      have NM := NUM ⟨#[109, 111, 110, 116, 104]⟩ (by decide) 7 (by decide +kernel) (by decide) (by decide) (by decide) (by decide) (by decide) (by decide) (by decide) m 0 0 (fun w hw => os_7 u _ _ _ OF (fun w hw => od_7 _ y m q 0 PA w (Dy.lens_of hw)) (WH _) w (Dy.lens_of hw))
      have ND := NUM ⟨#[100, 97, 121]⟩ (by decide) 5 (by decide +kernel) (by decide) (by decide) (by decide) (by decide) (by decide) (by decide) (by decide) q 0 0 (fun w hw => os_5 u _ _ _ OF (fun w hw => od_5 _ y m q 0 PA w (Dy.lens_of hw)) (WH _) w (Dy.lens_of hw))
      have NH := NUM ⟨#[104, 111, 117, 114]⟩ (by decide) 4 (by decide +kernel) (by decide) (by decide) (by decide) (by decide) (by decide) (by decide) (by decide) (u % 86400000000 / 3600000000) 0 0 (fun w hw => os_4 u _ _ _ _ OF (fun w => ot_h _ d1 d2 (WH _) w) w (Dy.lens_of hw))
      have NI := NUM ⟨#[109, 105, 110, 117, 116, 101]⟩ (by decide) 3 (by decide +kernel) (by decide) (by decide) (by decide) (by decide) (by decide) (by decide) (by decide) (u % 86400000000 / 60000000 % 60) 0 0 (fun w hw => os_3 u _ _ _ _ OF (fun w => ot_mi _ d1 d2 (WH _) w) w (Dy.lens_of hw))
      have NU := NUM ⟨#[109, 105, 99, 114, 111, 115, 101, 99, 111, 110, 100, 115]⟩ (by decide) 0 (by decide +kernel) (by decide) (by decide) (by decide) (by decide) (by decide) (by decide) (by decide) (u % 86400000000 % 60000000) 0 0 (fun w hw => os_0 u _ _ _ _ OF (fun w => ot_us _ d1 d2 (WH _) w) w (Dy.lens_of hw))
      have NQ := NUM ⟨#[113, 117, 97, 114, 116, 101, 114]⟩ (by decide) 8 (by decide +kernel) (by decide) (by decide) (by decide) (by decide) (by decide) (by decide) (by decide) ((m + 2) / 3) 0 0 (fun w hw => os_8 u _ _ _ OF (fun w hw => od_8 _ y m q _ PA (fun w => quarter_any m hq.1 hq.2.1 w) w (Dy.lens_of hw)) (WH _) w (Dy.lens_of hw))
      have AD := fun w => add_any u 946684800000000 u1 u2 (by decide) (by decide) w
      -- the reference's Make and Stamp
      have hr2 : Cvl.right y m q = true := Cvl.right_yes ⟨by omega, by omega, hq.2.2.1, hq.2.2.2.1⟩
      have eV : Dy.mkV y m q = u / 86400000000 := by
        unfold Dy.mkV Dy.oV Cvl.dayV Cvl.dayE
        rw [if_pos hr2, if_pos hr2, ← hq.2.2.2.2, if_pos ⟨rfl, hd⟩]
      have eE : Dy.mkE y m q = 0 := by
        unfold Dy.mkE Dy.oE Cvl.dayV Cvl.dayE
        rw [if_pos hr2, if_pos hr2, ← hq.2.2.2.2, if_pos ⟨rfl, hd⟩]
      have MK := fun w => Dy.rmake_any y m q w
      rw [eV, eE] at MK
      have SM := fun w => Dy.rstamp_any 0 (u / 86400000000) (u % 86400000000) w
      have es : u / 86400000000 * 86400000000 + u % 86400000000 = u := by omega
      have k := Dy.st_in (d := u / 86400000000) (u := u % 86400000000) ⟨hd, d1, by omega⟩ (by rw [es]; exact hd)
      rw [k.1, k.2.1, k.2.2, es] at SM
      have e1 : u % 86400000000 / 3600000000 * 3600 * 1000000 + u % 86400000000 / 60000000 % 60 * 60 * 1000000 + u % 86400000000 % 60000000 = u % 86400000000 := by omega
      have NE := fun n sc e OS => NB ⟨#[101, 112, 111, 99, 104]⟩ (by decide) 17 (by decide +kernel) (by decide) (by decide) (by decide) (by decide) (by decide) (by decide) (by decide) n sc e OS
      have hY : -1000000 ≤ shY y ∧ shY y ≤ 1000000 := by unfold shY; split <;> omega
      by_cases hs : -9223372036854775808 ≤ u + 946684800000000 ∧ u + 946684800000000 ≤ 9223372036854775807
      · rw [smV_in hs.1 hs.2, smE_in hs.1 hs.2] at AD
        have EX := NE (u + 946684800000000) 6 0 (fun w hw => os_17 u _ AD w)
        have hv : IntKind.i64.wrap (u + 946684800000000) = u + 946684800000000 := by rw [IntKind.wrap_i64]; omega
        by_cases sy : shY y < 0
        · refine mk_10 u (u / 86400000000) (shY y) y m q _ _ _ _ _ (u + 946684800000000) 6 0 hY.1 hY.2 ?_ ?_ ?_ ?_ ?_ ?_ hq.1 hq.2.1 rfl sy ?_ e1 hv RR NY NM ND MK NH NI NU SM NQ (fun w hw => EX w hw.1) (fun w => dec_any _ _ true (by decide) w) KN w hLL
          all_goals first | omega | (unfold shY at sy ⊢; split at sy <;> omega)
        · refine mk_00 u (u / 86400000000) (shY y) y m q _ _ _ _ _ (u + 946684800000000) 6 0 hY.1 hY.2 ?_ ?_ ?_ ?_ ?_ ?_ hq.1 hq.2.1 rfl sy ?_ e1 hv RR NY NM ND MK NH NI NU SM NQ (fun w hw => EX w hw.1) (fun w => dec_any _ _ true (by decide) w) KN w hLL
          all_goals first | omega | (unfold shY at sy ⊢; split at sy <;> omega)
      · have e10 : smE (u + 946684800000000) ≠ 0 := by unfold smE; rw [if_neg hs]; decide
        have EX := NE 0 0 (smE (u + 946684800000000)) (fun w hw => os_17e u _ _ e10 AD w)
        by_cases sy : shY y < 0
        · refine mk_11 u (u / 86400000000) (shY y) y m q _ _ _ _ _ 0 0 _ hY.1 hY.2 ?_ ?_ ?_ ?_ ?_ ?_ hq.1 hq.2.1 rfl sy ?_ e1 e10 RR NY NM ND MK NH NI NU SM NQ (fun w hw => EX w hw.1) (fun w => dec_any _ _ true (by decide) w) KN w hLL
          all_goals first | omega | (unfold shY at sy ⊢; split at sy <;> omega)
        · refine mk_01 u (u / 86400000000) (shY y) y m q _ _ _ _ _ 0 0 _ hY.1 hY.2 ?_ ?_ ?_ ?_ ?_ ?_ hq.1 hq.2.1 rfl sy ?_ e1 e10 RR NY NM ND MK NH NI NU SM NQ (fun w hw => EX w hw.1) (fun w => dec_any _ _ true (by decide) w) KN w hLL
          all_goals first | omega | (unfold shY at sy ⊢; split at sy <;> omega)
  · exact mk_inf i u hi KN w hLL

set_option maxRecDepth 100000 in
theorem lifted (os : Os) (started : os.Started) (H : Type) (enc : TypeId × Value → H) :
    ReturnsInHanded {} Tryz.checked os 6 .any (fun w args => (Rows.opsMakesSpec.pre enc Tryz.prog Tryz.f6 [] false w args ∧ laidMetH Tryz.prog Rows.opsMakesRow.laid w) ∧ sizedMet enc Tryz.prog Tryz.f6 (OpenSpec.ofChange Rows.opsMakesSpec) false w args)
      (Rows.opsMakesSpec.post enc Tryz.prog Tryz.f6 false true false false) := by
  refine returnsInHanded_of_change_and (C := Tryz.checked) (X := fun w _ => laidMetH Tryz.prog Rows.opsMakesRow.laid w) (fun _ _ _ hh h => h.of_heap hh) own started (by kernel_rfl) Tryz.func6
    (ChangeSpec.witness_shaped (enc := enc) (C := Tryz.checked) (os := os) (X := fun w _ => laidMetH Tryz.prog Rows.opsMakesRow.laid w) false (World.doorLaid Tryz.prog 400 os) #[.agg #[.int .i64 0, .int .i64 0]] 8 rfl (World.shaped_of_RefB (by kernel_rfl) (by kernel_rfl)) (by kernel_rfl) (by kernel_rfl) (by kernel_rfl) (door_met os _)) ?_
  intro W base args ds gs before hval0 hW _ _ hL _
  have hval : ∀ (j : Nat) t v, Tryz.f6.params[j]? = some t → args[j]? = some v → Value.okWide Tryz.prog W .any base t v := hval0
  have hW' := hW
  obtain ⟨p, q, hA0, hV, rfl, hfz, hnd⟩ := hW
  have hA : DataW.TrodAll enc Tryz.prog W 0 (fun _ => true) true Tryz.f6.params.toList args.toList ds p := hA0
  rw [Tryz.params6] at hA hval
  obtain ⟨v0, vs0, d0, ds0, p0, q0, ha0, rfl, rfl, h0, r0⟩ := trodAll_cons hA
  obtain ⟨rfl, rfl, rfl⟩ := trodAll_nil r0
  obtain rfl : args = #[v0] := by cases args; simp_all
  obtain ⟨rfl, rfl⟩ := trodVars_none hV
  obtain ⟨c0_0, c0_1, y0_0, y0_1, m0, rfl, rfl, rfl, hy0_0, hy0_1⟩ := Joins.open_agg2 Tryz.underlying23 (by kernel_rfl) (show Tryz.prog.cellsOf 23 = 2 by kernel_rfl) (hval 0 23 v0 rfl rfl) h0
  obtain ⟨n0_0, i0_0, rfl, wn0_0⟩ := DataW.trod_int Tryz.underlying3 hy0_0
  simp at i0_0
  subst i0_0
  obtain ⟨n0_1, i0_1, rfl, wn0_1⟩ := DataW.trod_int Tryz.underlying2 hy0_1
  simp at i0_1
  subst i0_1
  clear hA0 hval0
  simp only [List.append_nil] at hW'
  refine (walk n0_0 n0_1 wn0_0 wn0_1 W (of_laid hL)).mono fun e W' ⟨he, hg⟩ => ?_
  subst he
  exact ⟨_, rfl, _, _, _, [], [], [], hW', (trodAll_cons_mk (shut_bool Tryz.underlying4 _) trodAll_mk0), (trodAll_cons_mk ((Joins.shut_agg2 (y0 := (.lit (.int .i64 n0_0), [])) (y1 := (.lit (.int .i64 n0_1), [])) Tryz.underlying23 (by kernel_rfl) (show Tryz.prog.cellsOf 23 = 2 by kernel_rfl) ⟨1, by simp [DataW.trod, Tryz.underlying3, wn0_0]⟩ ⟨1, by simp [DataW.trod, Tryz.underlying2, wn0_1]⟩)) trodAll_mk0), rfl, hg.frame _, fun h => by cases h⟩

theorem over : Rows.opsMakesRow.holds Tryz.pinned (OpenSpec.ofChange Rows.opsMakesSpec) :=
  OpenClaim.holds_of_wide 6 Tryz.f6 rfl rfl rfl rfl rfl rfl rfl ⟨rfl, rfl, rfl, rfl, rfl⟩ rfl rfl rfl rfl rfl (by kernel_rfl) Tryz.func6 (by kernel_rfl)
    (of_decide_eq_true (by kernel_rfl)) (by unfold Func.isWrapper; first | (rw [if_pos (by decide +kernel)]; kernel_rfl) | (rw [if_neg (by decide +kernel)]; exact ⟨rfl, rfl⟩))
    (fun os started H enc _ => lifted os started H enc)

theorem proved : Rows.OpsMakesCardSaid :=
  Claim7.holds_tied_plain_at .later [] [.data, .data, .data, .data, .data] true (true, "1288aef8317a012f5a7b0e0b1f0b325ad2df71ac88b0c2102696b3cf94a1a272") true
    over (fun _ h => by cases h) (by kernel_rfl) (fun _ h => by cases h) opsMakes_row_tie rfl ⟨rfl, rfl⟩ (by kernel_rfl) rfl
    (fun f fn hf hfn => by
      obtain rfl : f = 6 := Option.some.inj ((show Tryz.prog.funcNamed Rows.opsMakesRow.func = some 6 by kernel_rfl).symm.trans hf) |>.symm
      obtain rfl : fn = Tryz.f6 := (Option.some.inj (Tryz.func6.symm.trans hfn)).symm
      exact ⟨by kernel_rfl, fun j t ht => by
        rw [Tryz.params6] at ht
        have hm : t ∈ [23] := by simpa using Array.mem_of_getElem? ht
        have hall : ([23].all fun u => !Tryz.prog.wantsStandIn u) = true := by kernel_rfl
        exact (show Tryz.prog.wantsStandIn t = false by simpa using List.all_eq_true.1 hall t hm)⟩)
    (by kernel_rfl)
end Go.Proofs.YtofmmdfdiaahhaaGreatDoor.opsMakes
