/- Any day and time as a text are what the document says, and they are read as they were: WhenTexts returns true for every day and time, where the listed tables are as the program's text lays them. -/
import Derived.Test.YtdkodkkbggdpbabDoorRows
import Derived.Test.YtdkodkkbggdpbabDoorCards
import Derived.Test.YtdkodkkbggdpbabDoorTie
import Derived.WalkKit
import Derived.ProofKit
import Derived.LaidMore
import Derived.OpenShut
import Derived.ShutString
import Derived.Stop.Joined
import Derived.Lib.LaidTab
import Derived.Lib.SmallJoins
import Derived.Stop.LaidErr
import Derived.Lay
import Derived.SevenTiedAt
import Derived.ChangeMaps5
import Derived.SizedLaws
import Derived.Lib.LaidU8T
import Derived.Test.YtdkodkkbggdpbabDoorLwWhenTexts
namespace Go.Proofs.YtdkodkkbggdpbabDoor.whenTexts
open Go.ChangeShapes Go.WideShapes Go.ChangeAt Go.WideMaps Go.WideElems Go.RowKit
set_option linter.unusedVariables false

theorem own : ownKnob Tryd.prog.godebug = none := by kernel_rfl

theorem gLen : Tryd.prog.globalNamed "computus/civil.lengths" = some 0 := by kernel_rfl
theorem tLen : (Tryd.prog.globals[0]?).map (·.type) = some 117 := by kernel_rfl
theorem uLen : Tryd.prog.underlying 117 = some (.array 12 2) := by kernel_rfl
theorem gTab : Tryd.prog.globalNamed "internal/strconv.uint64pow10" = some 1 := by kernel_rfl
theorem tTab : (Tryd.prog.globals[1]?).map (·.type) = some 147 := by kernel_rfl
theorem uTab : Tryd.prog.underlying 147 = some (.array 20 118) := by kernel_rfl
/-- what the listed variables give the walks: the twelve lengths, the powers of ten. -/
theorem of_laid {W : World} (h : laidMetH Tryd.prog Rows.whenTextsRow.laid W) : Cvl.Lens W ∧ Clk.Tab W := by
  rw [MakeChecks.laidMetH_plain _ _ _ (by kernel_rfl)] at h
  have ht := Lib.tabIs_of_head (k := .i64) (zs := Cvl.tabL) gLen tLen uLen Tryd.underlying2 (by kernel_rfl) (by kernel_rfl) h
  exact ⟨fun i hi => ht.cell gLen i hi, Lib.tabIs_of_head (k := .u64) (zs := Lib.pow10Tab) gTab tTab uTab Tryd.underlying118 (by kernel_rfl) (by kernel_rfl) h.tail.tail.tail⟩

theorem door_met (os : Os) (args : Array Value) : laidMetH Tryd.prog Rows.whenTextsRow.laid (((World.doorLaid Tryd.prog 400 os)).forCall (fun _ _ => 0) ⟨#[], args, []⟩).memory :=
  laidMetH_of_parts3 (fuel := 8) (laidMet_of_run' 8 (by kernel_rfl) (by kernel_rfl)) (by kernel_rfl) (by kernel_rfl)

theorem walk (k d n : Int) (wk : (Lit.int .i64 k).wf = true) (wd : (Lit.int .i64 d).wf = true) (wn : (Lit.int .i64 n).wf = true) (s q : Int) (ws : (Lit.int .i64 s).wf = true) (wq : (Lit.int .u8 q).wf = true) (w : World) (hT : Cvl.Lens w ∧ Clk.Tab w) :
    Calls Tryd.prog 7 #[.agg #[.int .i64 k, .int .i64 d, .int .i64 n], .agg #[.int .i64 s, .int .u8 q]] w fun e w' => e = .returned (.bool true) ∧ Below w.heap.size w w' := by
  by_cases a : okOn k d n
  · by_cases b : okAt s q
    · exact core_WhenTexts_11 k d n s q _ _ (given_any k d n) (textOn_yes k d n a) (rtextOn_yes k d n a) (tat_yes s q b) (rtat_yes s q b) (on_back k d n a) (taken_any k d n) (at_back s q b) known_any w hT.1 hT.2
    · exact core_WhenTexts_10 k d n s q _ _ (given_any k d n) (textOn_yes k d n a) (rtextOn_yes k d n a) (tat_no s q b) (rtat_no s q (rightAt_no s q b)) (on_back k d n a) (taken_any k d n) known_any w hT.1 hT.2
  · by_cases b : okAt s q
    · exact core_WhenTexts_01 k d n s q _ _ (given_any k d n) (textOn_no k d n a) (rtextOn_no k d n (rightOn_no k d n a)) (tat_yes s q b) (rtat_yes s q b) (at_back s q b) known_any w hT.1 hT.2
    · exact core_WhenTexts_00 k d n s q _ _ (given_any k d n) (textOn_no k d n a) (rtextOn_no k d n (rightOn_no k d n a)) (tat_no s q b) (rtat_no s q (rightAt_no s q b)) known_any w hT.1 hT.2

set_option maxRecDepth 100000 in
theorem lifted (os : Os) (started : os.Started) (H : Type) (enc : TypeId × Value → H) :
    ReturnsInHanded {} Tryd.checked os 7 .any (fun w args => (Rows.whenTextsSpec.pre enc Tryd.prog Tryd.f7 [] false w args ∧ laidMetH Tryd.prog Rows.whenTextsRow.laid w) ∧ sizedMet enc Tryd.prog Tryd.f7 (OpenSpec.ofChange Rows.whenTextsSpec) false w args)
      (Rows.whenTextsSpec.post enc Tryd.prog Tryd.f7 false true false false) := by
  refine returnsInHanded_of_change_and (C := Tryd.checked) (X := fun w _ => laidMetH Tryd.prog Rows.whenTextsRow.laid w) (fun _ _ _ hh h => h.of_heap hh) own started (by kernel_rfl) Tryd.func7
    (ChangeSpec.witness_shaped (enc := enc) (C := Tryd.checked) (os := os) (X := fun w _ => laidMetH Tryd.prog Rows.whenTextsRow.laid w) false (World.doorLaid Tryd.prog 400 os) #[.agg #[.int .i64 0, .int .i64 0, .int .i64 0], .agg #[.int .i64 0, .int .u8 0]] 8 rfl (World.shaped_of_RefB (by kernel_rfl) (by kernel_rfl)) (by kernel_rfl) (by kernel_rfl) (by kernel_rfl) (door_met os _)) ?_
  intro W base args ds gs before hval0 hW _ _ hL _
  have hval : ∀ (j : Nat) t v, Tryd.f7.params[j]? = some t → args[j]? = some v → Value.okWide Tryd.prog W .any base t v := hval0
  have hW' := hW
  obtain ⟨p, q, hA0, hV, rfl, hfz, hnd⟩ := hW
  have hA : DataW.TrodAll enc Tryd.prog W 0 (fun _ => true) true Tryd.f7.params.toList args.toList ds p := hA0
  rw [Tryd.params7] at hA hval
  obtain ⟨v0, vs0, d0, ds0, p0, q0, ha0, rfl, rfl, h0, r0⟩ := trodAll_cons hA
  obtain ⟨v1, vs1, d1, ds1, p1, q1, ha1, rfl, rfl, h1, r1⟩ := trodAll_cons r0
  obtain ⟨rfl, rfl, rfl⟩ := trodAll_nil r1
  subst ha1
  obtain rfl : args = #[v0, v1] := by cases args; simp_all
  obtain ⟨rfl, rfl⟩ := trodVars_none hV
  obtain ⟨c0_0, c0_1, c0_2, y0_0, y0_1, y0_2, m0, rfl, rfl, rfl, hy0_0, hy0_1, hy0_2⟩ := Joins.open_agg3 Tryd.underlying35 (by kernel_rfl) (show Tryd.prog.cellsOf 35 = 3 by kernel_rfl) (hval 0 35 v0 rfl rfl) h0
  obtain ⟨n0_0, i0_0, rfl, wn0_0⟩ := DataW.trod_int Tryd.underlying3 hy0_0
  simp at i0_0
  subst i0_0
  obtain ⟨n0_1, i0_1, rfl, wn0_1⟩ := DataW.trod_int Tryd.underlying2 hy0_1
  simp at i0_1
  subst i0_1
  obtain ⟨n0_2, i0_2, rfl, wn0_2⟩ := DataW.trod_int Tryd.underlying2 hy0_2
  simp at i0_2
  subst i0_2
  obtain ⟨c1_0, c1_1, y1_0, y1_1, m1, rfl, rfl, rfl, hy1_0, hy1_1⟩ := Joins.open_agg2 Tryd.underlying42 (by kernel_rfl) (show Tryd.prog.cellsOf 42 = 2 by kernel_rfl) (hval 1 42 v1 rfl rfl) h1
  obtain ⟨n1_0, i1_0, rfl, wn1_0⟩ := DataW.trod_int Tryd.underlying2 hy1_0
  simp at i1_0
  subst i1_0
  obtain ⟨n1_1, i1_1, rfl, wn1_1⟩ := DataW.trod_int Tryd.underlying5 hy1_1
  simp at i1_1
  subst i1_1
  clear hA0 hval0
  simp only [List.append_nil] at hW'
  refine (walk n0_0 n0_1 n0_2 wn0_0 wn0_1 wn0_2 n1_0 n1_1 wn1_0 wn1_1 W (of_laid hL)).mono fun e W' ⟨he, hg⟩ => ?_
  subst he
  exact ⟨_, rfl, _, _, _, [], [], [], hW', (trodAll_cons_mk (shut_bool Tryd.underlying4 _) trodAll_mk0), (trodAll_cons_mk ((Joins.shut_agg3 (y0 := (.lit (.int .i64 n0_0), [])) (y1 := (.lit (.int .i64 n0_1), [])) (y2 := (.lit (.int .i64 n0_2), [])) Tryd.underlying35 (by kernel_rfl) (show Tryd.prog.cellsOf 35 = 3 by kernel_rfl) ⟨1, by simp [DataW.trod, Tryd.underlying3, wn0_0]⟩ ⟨1, by simp [DataW.trod, Tryd.underlying2, wn0_1]⟩ ⟨1, by simp [DataW.trod, Tryd.underlying2, wn0_2]⟩)) (trodAll_cons_mk ((Joins.shut_agg2 (y0 := (.lit (.int .i64 n1_0), [])) (y1 := (.lit (.int .u8 n1_1), [])) Tryd.underlying42 (by kernel_rfl) (show Tryd.prog.cellsOf 42 = 2 by kernel_rfl) ⟨1, by simp [DataW.trod, Tryd.underlying2, wn1_0]⟩ ⟨1, by simp [DataW.trod, Tryd.underlying5, wn1_1]⟩)) trodAll_mk0)), rfl, hg.frame _, fun h => by cases h⟩

theorem over : Rows.whenTextsRow.holds Tryd.pinned (OpenSpec.ofChange Rows.whenTextsSpec) :=
  OpenClaim.holds_of_wide 7 Tryd.f7 rfl rfl rfl rfl rfl rfl rfl ⟨rfl, rfl, rfl, rfl, rfl⟩ rfl rfl rfl rfl rfl (by kernel_rfl) Tryd.func7 (by kernel_rfl)
    (of_decide_eq_true (by kernel_rfl)) (by unfold Func.isWrapper; first | (rw [if_pos (by decide +kernel)]; kernel_rfl) | (rw [if_neg (by decide +kernel)]; exact ⟨rfl, rfl⟩))
    (fun os started H enc _ => lifted os started H enc)

theorem proved : Rows.WhenTextsCardSaid :=
  Claim7.holds_tied_plain_at .later [] [.data, .data, .data, .data] true (true, "8edcfaed265ccf5d3c17db6e93bb3864eaf7efcf27b2903e9957bd8adba36318") true
    over (fun _ h => by cases h) (by kernel_rfl) (fun _ h => by cases h) whenTexts_row_tie rfl ⟨rfl, rfl⟩ (by kernel_rfl) rfl
    (fun f fn hf hfn => by
      obtain rfl : f = 7 := Option.some.inj ((show Tryd.prog.funcNamed Rows.whenTextsRow.func = some 7 by kernel_rfl).symm.trans hf) |>.symm
      obtain rfl : fn = Tryd.f7 := (Option.some.inj (Tryd.func7.symm.trans hfn)).symm
      exact ⟨by kernel_rfl, fun j t ht => by
        rw [Tryd.params7] at ht
        have hm : t ∈ [35, 42] := by simpa using Array.mem_of_getElem? ht
        have hall : ([35, 42].all fun u => !Tryd.prog.wantsStandIn u) = true := by kernel_rfl
        exact (show Tryd.prog.wantsStandIn t = false by simpa using List.all_eq_true.1 hall t hm)⟩)
    (by kernel_rfl)
end Go.Proofs.YtdkodkkbggdpbabDoor.whenTexts
