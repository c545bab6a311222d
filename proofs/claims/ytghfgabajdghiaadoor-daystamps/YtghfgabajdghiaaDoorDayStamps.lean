/- Any date and time as a stamp, and any stamp as a date and time, are what the document says, and so is their order: DayStamps returns true for every input, where the table of the months' lengths is as the program's text lays it. -/
import Derived.Test.YtghfgabajdghiaaDoorRows
import Derived.Test.YtghfgabajdghiaaDoorCards
import Derived.Test.YtghfgabajdghiaaDoorTie
import Derived.WalkKit
import Derived.ProofKit
import Derived.LaidMore
import Derived.OpenShut
import Derived.ShutString
import Derived.Stop.Joined
import Derived.Lib.LaidTab
import Derived.Lib.SmallJoins
import Derived.Stop.LaidErr
import Derived.Lay
import Derived.SevenTiedAt
import Derived.ChangeMaps5
import Derived.SizedLaws
import Derived.Lib.LaidU8T
import Derived.Shelf.Vars
import Derived.Test.YtghfgabajdghiaaDoorLwDayStamps
namespace Go.Proofs.YtghfgabajdghiaaDoor.dayStamps
open Go.ChangeShapes Go.WideShapes Go.ChangeAt Go.WideMaps Go.WideElems Go.RowKit
set_option linter.unusedVariables false

theorem own : ownKnob Tryd.prog.godebug = none := by kernel_rfl

theorem gLen : Tryd.prog.globalNamed "computus/civil.lengths" = some 0 := by kernel_rfl
theorem tLen : (Tryd.prog.globals[0]?).map (·.type) = some 69 := by kernel_rfl
theorem uLen : Tryd.prog.underlying 69 = some (.array 12 2) := by kernel_rfl
/-- what the listed variable gives the walks: the twelve lengths. -/
theorem of_laid {W : World} (h : laidMetH Tryd.prog Rows.dayStampsRow.laid W) : Cvl.Lens W := by
  rw [MakeChecks.laidMetH_plain _ _ _ (by kernel_rfl)] at h
  have ht := Lib.tabIs_of_head (k := .i64) (zs := Cvl.tabL) (rest := []) gLen tLen uLen Tryd.underlying2 (by kernel_rfl) (by kernel_rfl) h
  exact fun i hi => ht.cell gLen i hi

theorem door_met (os : Os) (args : Array Value) : laidMetH Tryd.prog Rows.dayStampsRow.laid (((World.doorLaid Tryd.prog 400 os)).forCall (fun _ _ => 0) ⟨#[], args, []⟩).memory :=
  laidMetH_of_parts3 (fuel := 8) (laidMet_of_run' 8 (by kernel_rfl) (by kernel_rfl)) (by kernel_rfl) (by kernel_rfl)

theorem walk (i a : Int) (wi : (Lit.int .i64 i).wf = true) (wa : (Lit.int .i64 a).wf = true) (n : Int) (wn : (Lit.int .i64 n).wf = true) (j b : Int) (wj : (Lit.int .i64 j).wf = true) (wb : (Lit.int .i64 b).wf = true) (l c : Int) (wl : (Lit.int .i64 l).wf = true) (wc : (Lit.int .i64 c).wf = true) (w : World) (hT : Cvl.Lens w) :
    Calls Tryd.prog 5 #[.agg #[.int .i64 i, .int .i64 a], .int .i64 n, .agg #[.int .i64 j, .int .i64 b], .agg #[.int .i64 l, .int .i64 c]] w fun e w' => e = .returned (.bool true) ∧ Below w.heap.size w w' := by
  obtain ⟨b1, b2⟩ := bounds_i64 wb
  obtain ⟨c1, c2⟩ := bounds_i64 wc
  exact core_DayStamps i a n j b l c _ _ _ _ _ _ _ _ _ _ _ _ (fun w hh => stamp_any i a n w hh) (fun w => rstamp_any i a n w) (fun w hh => start_any i a w hh) (fun w => rstart_any i a w) (fun w hh => sof_any j b b1 b2 w hh) (fun w => srof_any j b b1 b2 w)
    (fun w hh => rst_any j b b1 b2 w hh) (fun w => rrst_any j b b1 b2 w) (fun w hh => scmp_any j b l c b1 b2 c1 c2 w hh) (fun w => rscmp_any j b l c b1 b2 c1 c2 w) (fun w hh => known_any w hh) w (lens_of hT)

set_option maxRecDepth 100000 in
theorem lifted (os : Os) (started : os.Started) (H : Type) (enc : TypeId × Value → H) :
    ReturnsInHanded {} Tryd.checked os 5 .any (fun w args => (Rows.dayStampsSpec.pre enc Tryd.prog Tryd.f5 [] false w args ∧ laidMetH Tryd.prog Rows.dayStampsRow.laid w) ∧ sizedMet enc Tryd.prog Tryd.f5 (OpenSpec.ofChange Rows.dayStampsSpec) false w args)
      (Rows.dayStampsSpec.post enc Tryd.prog Tryd.f5 false true false false) := by
  refine returnsInHanded_of_change_and (C := Tryd.checked) (X := fun w _ => laidMetH Tryd.prog Rows.dayStampsRow.laid w) (fun _ _ _ hh h => h.of_heap hh) own started (by kernel_rfl) Tryd.func5
    (ChangeSpec.witness_shaped (enc := enc) (C := Tryd.checked) (os := os) (X := fun w _ => laidMetH Tryd.prog Rows.dayStampsRow.laid w) false (World.doorLaid Tryd.prog 400 os) #[.agg #[.int .i64 0, .int .i64 0], .int .i64 0, .agg #[.int .i64 0, .int .i64 0], .agg #[.int .i64 0, .int .i64 0]] 8 rfl (World.shaped_of_RefB (by kernel_rfl) (by kernel_rfl)) (by kernel_rfl) (by kernel_rfl) (by kernel_rfl) (door_met os _)) ?_
  intro W base args ds gs before hval0 hW _ _ hL _
  have hval : ∀ (j : Nat) t v, Tryd.f5.params[j]? = some t → args[j]? = some v → Value.okWide Tryd.prog W .any base t v := hval0
  have hW' := hW
  obtain ⟨p, q, hA0, hV, rfl, hfz, hnd⟩ := hW
  have hA : DataW.TrodAll enc Tryd.prog W 0 (fun _ => true) true Tryd.f5.params.toList args.toList ds p := hA0
  rw [Tryd.params5] at hA hval
  obtain ⟨v0, vs0, d0, ds0, p0, q0, ha0, rfl, rfl, h0, r0⟩ := trodAll_cons hA
  obtain ⟨v1, vs1, d1, ds1, p1, q1, ha1, rfl, rfl, h1, r1⟩ := trodAll_cons r0
  obtain ⟨v2, vs2, d2, ds2, p2, q2, ha2, rfl, rfl, h2, r2⟩ := trodAll_cons r1
  obtain ⟨v3, vs3, d3, ds3, p3, q3, ha3, rfl, rfl, h3, r3⟩ := trodAll_cons r2
  obtain ⟨rfl, rfl, rfl⟩ := trodAll_nil r3
  subst ha3
  subst ha2
  subst ha1
  obtain rfl : args = #[v0, v1, v2, v3] := by cases args; simp_all
  obtain ⟨rfl, rfl⟩ := trodVars_none hV
  obtain ⟨c0_0, c0_1, y0_0, y0_1, m0, rfl, rfl, rfl, hy0_0, hy0_1⟩ := Joins.open_agg2 Tryd.underlying23 (by kernel_rfl) (show Tryd.prog.cellsOf 23 = 2 by kernel_rfl) (hval 0 23 v0 rfl rfl) h0
  obtain ⟨n0_0, i0_0, rfl, wn0_0⟩ := DataW.trod_int Tryd.underlying3 hy0_0
  simp at i0_0
  subst i0_0
  obtain ⟨n0_1, i0_1, rfl, wn0_1⟩ := DataW.trod_int Tryd.underlying2 hy0_1
  simp at i0_1
  subst i0_1
  obtain ⟨a1, rfl, rfl, rfl, w1⟩ := open_int Tryd.underlying2 (hval 1 2 v1 rfl rfl) h1
  obtain ⟨c2_0, c2_1, y2_0, y2_1, m2, rfl, rfl, rfl, hy2_0, hy2_1⟩ := Joins.open_agg2 Tryd.underlying38 (by kernel_rfl) (show Tryd.prog.cellsOf 38 = 2 by kernel_rfl) (hval 2 38 v2 rfl rfl) h2
  obtain ⟨n2_0, i2_0, rfl, wn2_0⟩ := DataW.trod_int Tryd.underlying3 hy2_0
  simp at i2_0
  subst i2_0
  obtain ⟨n2_1, i2_1, rfl, wn2_1⟩ := DataW.trod_int Tryd.underlying2 hy2_1
  simp at i2_1
  subst i2_1
  obtain ⟨c3_0, c3_1, y3_0, y3_1, m3, rfl, rfl, rfl, hy3_0, hy3_1⟩ := Joins.open_agg2 Tryd.underlying38 (by kernel_rfl) (show Tryd.prog.cellsOf 38 = 2 by kernel_rfl) (hval 3 38 v3 rfl rfl) h3
  obtain ⟨n3_0, i3_0, rfl, wn3_0⟩ := DataW.trod_int Tryd.underlying3 hy3_0
  simp at i3_0
  subst i3_0
  obtain ⟨n3_1, i3_1, rfl, wn3_1⟩ := DataW.trod_int Tryd.underlying2 hy3_1
  simp at i3_1
  subst i3_1
  clear hA0 hval0
  simp only [List.append_nil] at hW'
  refine (walk n0_0 n0_1 wn0_0 wn0_1 a1 w1 n2_0 n2_1 wn2_0 wn2_1 n3_0 n3_1 wn3_0 wn3_1 W (of_laid hL)).mono fun e W' ⟨he, hg⟩ => ?_
  subst he
  exact ⟨_, rfl, _, _, _, [], [], [], hW', (trodAll_cons_mk (shut_bool Tryd.underlying4 _) trodAll_mk0), (trodAll_cons_mk ((Joins.shut_agg2 (y0 := (.lit (.int .i64 n0_0), [])) (y1 := (.lit (.int .i64 n0_1), [])) Tryd.underlying23 (by kernel_rfl) (show Tryd.prog.cellsOf 23 = 2 by kernel_rfl) ⟨1, by simp [DataW.trod, Tryd.underlying3, wn0_0]⟩ ⟨1, by simp [DataW.trod, Tryd.underlying2, wn0_1]⟩)) (trodAll_cons_mk (shut_int Tryd.underlying2 w1) (trodAll_cons_mk ((Joins.shut_agg2 (y0 := (.lit (.int .i64 n2_0), [])) (y1 := (.lit (.int .i64 n2_1), [])) Tryd.underlying38 (by kernel_rfl) (show Tryd.prog.cellsOf 38 = 2 by kernel_rfl) ⟨1, by simp [DataW.trod, Tryd.underlying3, wn2_0]⟩ ⟨1, by simp [DataW.trod, Tryd.underlying2, wn2_1]⟩)) (trodAll_cons_mk ((Joins.shut_agg2 (y0 := (.lit (.int .i64 n3_0), [])) (y1 := (.lit (.int .i64 n3_1), [])) Tryd.underlying38 (by kernel_rfl) (show Tryd.prog.cellsOf 38 = 2 by kernel_rfl) ⟨1, by simp [DataW.trod, Tryd.underlying3, wn3_0]⟩ ⟨1, by simp [DataW.trod, Tryd.underlying2, wn3_1]⟩)) trodAll_mk0)))), rfl, hg.frame _, fun h => by cases h⟩

theorem over : Rows.dayStampsRow.holds Tryd.pinned (OpenSpec.ofChange Rows.dayStampsSpec) :=
  OpenClaim.holds_of_wide 5 Tryd.f5 rfl rfl rfl rfl rfl rfl rfl ⟨rfl, rfl, rfl, rfl, rfl⟩ rfl rfl rfl rfl rfl (by kernel_rfl) Tryd.func5 (by kernel_rfl)
    (of_decide_eq_true (by kernel_rfl)) (by unfold Func.isWrapper; first | (rw [if_pos (by decide +kernel)]; kernel_rfl) | (rw [if_neg (by decide +kernel)]; exact ⟨rfl, rfl⟩))
    (fun os started H enc _ => lifted os started H enc)

theorem proved : Rows.DayStampsCardSaid :=
  Claim7.holds_tied_plain_at .later [] [.data] true (true, "ee6236e5d73ea5aaf834aeb57ea8ae40be55530693a6c9e83285e2346e9c90fa") false
    over (fun _ h => by cases h) (by kernel_rfl) (fun _ h => by cases h) dayStamps_row_tie rfl ⟨rfl, rfl⟩ (by kernel_rfl) rfl
    (fun f fn hf hfn => by
      obtain rfl : f = 5 := Option.some.inj ((show Tryd.prog.funcNamed Rows.dayStampsRow.func = some 5 by kernel_rfl).symm.trans hf) |>.symm
      obtain rfl : fn = Tryd.f5 := (Option.some.inj (Tryd.func5.symm.trans hfn)).symm
      exact ⟨by kernel_rfl, fun j t ht => by
        rw [Tryd.params5] at ht
        have hm : t ∈ [23, 2, 38] := by simpa using Array.mem_of_getElem? ht
        have hall : ([23, 2, 38].all fun u => !Tryd.prog.wantsStandIn u) = true := by kernel_rfl
        exact (show Tryd.prog.wantsStandIn t = false by simpa using List.all_eq_true.1 hall t hm)⟩)
    (by kernel_rfl)
end Go.Proofs.YtghfgabajdghiaaDoor.dayStamps
