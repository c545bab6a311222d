/- An interval in any style is what the document says: ShowSpans returns true for every interval and style. -/
import Derived.Test.YtmohhbgmbicklaaDoorRows
import Derived.Test.YtmohhbgmbicklaaDoorCards
import Derived.Test.YtmohhbgmbicklaaDoorTie
import Derived.WalkKit
import Derived.ProofKit
import Derived.LaidMore
import Derived.OpenShut
import Derived.ShutString
import Derived.Stop.Joined
import Derived.Lib.LaidTab
import Derived.Lib.SmallJoins
import Derived.Stop.LaidErr
import Derived.Lay
import Derived.SevenTiedAt
import Derived.ChangeMaps5
import Derived.SizedLaws
import Derived.Lib.LaidU8T
import Derived.Shelf.Vars
import Derived.Test.YtmohhbgmbicklaaDoorShKq
namespace Go.Proofs.YtmohhbgmbicklaaDoor.showSpans
open Go.ChangeShapes Go.WideShapes Go.ChangeAt Go.WideMaps Go.WideElems Go.RowKit
set_option linter.unusedVariables false

theorem own : ownKnob Tryd.prog.godebug = none := by kernel_rfl

theorem gLen : Tryd.prog.globalNamed "computus/civil.lengths" = some 1 := by kernel_rfl
theorem tLen : (Tryd.prog.globals[1]?).map (·.type) = some 96 := by kernel_rfl
theorem uLen : Tryd.prog.underlying 96 = some (.array 12 2) := by kernel_rfl
theorem gTab : Tryd.prog.globalNamed "internal/strconv.uint64pow10" = some 0 := by kernel_rfl
theorem tTab : (Tryd.prog.globals[0]?).map (·.type) = some 88 := by kernel_rfl
theorem uTab : Tryd.prog.underlying 88 = some (.array 20 64) := by kernel_rfl
/-- what the listed variables give the walks: the twelve lengths, the powers of ten. -/
theorem of_laid {W : World} (h : laidMetH Tryd.prog Rows.showSpansRow.laid W) : LT W := by
  rw [MakeChecks.laidMetH_plain _ _ _ (by kernel_rfl)] at h
  have ht := Lib.tabIs_of_head (k := .i64) (zs := Cvl.tabL) gLen tLen uLen Tryd.underlying2 (by kernel_rfl) (by kernel_rfl) h
  exact ⟨fun i hi => ht.cell gLen i hi, Lib.tabIs_of_head (k := .u64) (zs := Lib.pow10Tab) gTab tTab uTab Tryd.underlying64 (by kernel_rfl) (by kernel_rfl) h.tail.tail.tail⟩

theorem door_met (os : Os) (args : Array Value) : laidMetH Tryd.prog Rows.showSpansRow.laid (((World.laidAll Tryd.prog os Rows.showSpansRow.laid)).forCall (fun _ _ => 0) ⟨#[], args, []⟩).memory := by
  rw [MakeChecks.laidMetH_plain _ _ _ (by kernel_rfl)]; exact laidMet_laidAll _ (by kernel_rfl) (by kernel_rfl)

theorem span_any (i M D U o r p : Int) (U1 : -9223372036854775808 ≤ U) (U2 : U ≤ 9223372036854775807) :
    ∃ (X : ByteArray) (e : Int), (∀ w : World, LT w → Calls Tryd.prog 4 #[.agg #[.int .i64 i, .int .i64 M, .int .i64 D, .int .i64 U], .agg #[.int .i64 o, .int .i64 r, .int .i64 p]] w fun r' w' => r' = .returned (.tuple #[.string X, .int .i64 e]) ∧ Below w.heap.size w w') ∧
      (∀ w : World, Calls Tryd.prog 5 #[.agg #[.int .i64 i, .int .i64 M, .int .i64 D, .int .i64 U], .agg #[.int .i64 o, .int .i64 r, .int .i64 p]] w fun r' w' => r' = .returned (.tuple #[.string X, .int .i64 e]) ∧ Below w.heap.size w w') := by
  have S1 := fun w => right19 o r p w
  have S2 := fun w => rright19 o r p w
  have P1 := fun w => Sp.pr_any i M D U U1 U2 w
  have P2 := fun w => Sp.rpr_any i M D U U1 U2 w
  cases hs : stR o r p
  · rw [hs] at S1 S2
    cases hp : Sp.pR i M D U
    · rw [hp] at P1 P2
      exact ⟨_, _, fun w _ => sp_no1 i M D U o r p S1 w, fun w => rsp_no1 i M D U o r p P2 w⟩
    · rw [hp] at P1 P2
      exact ⟨_, _, fun w _ => sp_no1 i M D U o r p S1 w, fun w => rsp_no2 i M D U o r p P2 S2 w⟩
  · rw [hs] at S1 S2
    cases hp : Sp.pR i M D U
    · rw [hp] at P1 P2
      exact ⟨_, _, fun w _ => sp_no2 i M D U o r p S1 P1 w, fun w => rsp_no1 i M D U o r p P2 w⟩
    · rw [hp] at P1 P2
      by_cases hi : i = 0
      · subst hi
        have b : -2147483647 ≤ M ∧ M ≤ 2147483647 ∧ -2147483647 ≤ D ∧ D ≤ 2147483647 ∧ -9223372036854775807 ≤ U := by
          rcases Sp.pR_yes hp with k | k
          · omega
          · omega
        obtain ⟨b1, b2, b3, b4, b5⟩ := b
        have hp3 : p = 0 ∨ p = 1 ∨ p = 2 := by
          simp [stR] at hs
          omega
        rcases hp3 with rfl | rfl | rfl
        · obtain ⟨X, h1, h2⟩ := both_pg M D U b1 b2 b3 b4 b5 U2
          exact ⟨X, 0, fun w hw => sp_0 M D U o r X S1 P1 h1 w (tab_of hw.2), fun w => rsp_0 M D U o r X P2 S2 h2 w⟩
        · obtain ⟨X, h1, h2⟩ := both_sql M D U b1 b2 b3 b4 b5 U2
          exact ⟨X, 0, fun w hw => sp_1 M D U o r X S1 P1 h1 w (tab_of hw.2), fun w => rsp_1 M D U o r X P2 S2 h2 w⟩
        · obtain ⟨X, h1, h2⟩ := both_iso M D U b1 b2 b3 b4 b5 U2
          exact ⟨X, 0, fun w hw => sp_2 M D U o r X S1 P1 h1 w (tab_of hw.2), fun w => rsp_2 M D U o r X P2 S2 h2 w⟩
      · exact ⟨endB i, 0, fun w _ => sp_inf i M D U o r p (endB i) hi S1 P1 (fun w => end_any i hi w) w, fun w => rsp_inf i M D U o r p (endB i) hi P2 S2 (fun w => inf_any i hi w) w⟩

theorem walk (i M D U : Int) (wi : (Lit.int .i64 i).wf = true) (wM : (Lit.int .i64 M).wf = true) (wD : (Lit.int .i64 D).wf = true) (wU : (Lit.int .i64 U).wf = true) (o r p : Int) (wo : (Lit.int .i64 o).wf = true) (wr : (Lit.int .i64 r).wf = true) (wp : (Lit.int .i64 p).wf = true) (w : World) (hL : LT w) :
    Calls Tryd.prog 3 #[.agg #[.int .i64 i, .int .i64 M, .int .i64 D, .int .i64 U], .agg #[.int .i64 o, .int .i64 r, .int .i64 p]] w fun r' w' => r' = .returned (.bool true) ∧ Below w.heap.size w w' := by
  obtain ⟨U1, U2⟩ := bounds_i64 wU
  obtain ⟨X, e, h1, h2⟩ := span_any i M D U o r p U1 U2
  exact shows_run i M D U o r p X e h1 h2 (fun w hw => known19_any w hw) w (LT.of hL)

set_option maxRecDepth 100000 in
theorem lifted (os : Os) (started : os.Started) (H : Type) (enc : TypeId × Value → H) :
    ReturnsInHanded {} Tryd.checked os 3 .any (fun w args => (Rows.showSpansSpec.pre enc Tryd.prog Tryd.f3 [] false w args ∧ laidMetH Tryd.prog Rows.showSpansRow.laid w) ∧ sizedMet enc Tryd.prog Tryd.f3 (OpenSpec.ofChange Rows.showSpansSpec) false w args)
      (Rows.showSpansSpec.post enc Tryd.prog Tryd.f3 false true false false) := by
  refine returnsInHanded_of_change_and (C := Tryd.checked) (X := fun w _ => laidMetH Tryd.prog Rows.showSpansRow.laid w) (fun _ _ _ hh h => h.of_heap hh) own started (by kernel_rfl) Tryd.func3
    (ChangeSpec.witness_shaped (enc := enc) (C := Tryd.checked) (os := os) (X := fun w _ => laidMetH Tryd.prog Rows.showSpansRow.laid w) false (World.laidAll Tryd.prog os Rows.showSpansRow.laid) #[.agg #[.int .i64 0, .int .i64 0, .int .i64 0, .int .i64 0], .agg #[.int .i64 0, .int .i64 0, .int .i64 0]] 8 (World.laidAll_os _ _ _) (World.shaped_of_ZipB (by kernel_rfl) (by kernel_rfl)) (by kernel_rfl) (by kernel_rfl) (by kernel_rfl) (door_met os _)) ?_
  intro W base args ds gs before hval0 hW _ _ hL _
  have hval : ∀ (j : Nat) t v, Tryd.f3.params[j]? = some t → args[j]? = some v → Value.okWide Tryd.prog W .any base t v := hval0
  have hW' := hW
  obtain ⟨p, q, hA0, hV, rfl, hfz, hnd⟩ := hW
  have hA : DataW.TrodAll enc Tryd.prog W 0 (fun _ => true) true Tryd.f3.params.toList args.toList ds p := hA0
  rw [Tryd.params3] at hA hval
  obtain ⟨v0, vs0, d0, ds0, p0, q0, ha0, rfl, rfl, h0, r0⟩ := trodAll_cons hA
  obtain ⟨v1, vs1, d1, ds1, p1, q1, ha1, rfl, rfl, h1, r1⟩ := trodAll_cons r0
  obtain ⟨rfl, rfl, rfl⟩ := trodAll_nil r1
  subst ha1
  obtain rfl : args = #[v0, v1] := by cases args; simp_all
  obtain ⟨rfl, rfl⟩ := trodVars_none hV
  obtain ⟨c0_0, c0_1, c0_2, c0_3, y0_0, y0_1, y0_2, y0_3, m0, rfl, rfl, rfl, hy0_0, hy0_1, hy0_2, hy0_3⟩ := Joins.open_agg4 Tryd.underlying23 (by kernel_rfl) (show Tryd.prog.cellsOf 23 = 4 by kernel_rfl) (hval 0 23 v0 rfl rfl) h0
  obtain ⟨n0_0, i0_0, rfl, wn0_0⟩ := DataW.trod_int Tryd.underlying3 hy0_0
  simp at i0_0
  subst i0_0
  obtain ⟨n0_1, i0_1, rfl, wn0_1⟩ := DataW.trod_int Tryd.underlying2 hy0_1
  simp at i0_1
  subst i0_1
  obtain ⟨n0_2, i0_2, rfl, wn0_2⟩ := DataW.trod_int Tryd.underlying2 hy0_2
  simp at i0_2
  subst i0_2
  obtain ⟨n0_3, i0_3, rfl, wn0_3⟩ := DataW.trod_int Tryd.underlying2 hy0_3
  simp at i0_3
  subst i0_3
  obtain ⟨c1_0, c1_1, c1_2, y1_0, y1_1, y1_2, m1, rfl, rfl, rfl, hy1_0, hy1_1, hy1_2⟩ := Joins.open_agg3 Tryd.underlying25 (by kernel_rfl) (show Tryd.prog.cellsOf 25 = 3 by kernel_rfl) (hval 1 25 v1 rfl rfl) h1
  obtain ⟨n1_0, i1_0, rfl, wn1_0⟩ := DataW.trod_int Tryd.underlying3 hy1_0
  simp at i1_0
  subst i1_0
  obtain ⟨n1_1, i1_1, rfl, wn1_1⟩ := DataW.trod_int Tryd.underlying3 hy1_1
  simp at i1_1
  subst i1_1
  obtain ⟨n1_2, i1_2, rfl, wn1_2⟩ := DataW.trod_int Tryd.underlying3 hy1_2
  simp at i1_2
  subst i1_2
  clear hA0 hval0
  simp only [List.append_nil] at hW'
  refine (walk n0_0 n0_1 n0_2 n0_3 wn0_0 wn0_1 wn0_2 wn0_3 n1_0 n1_1 n1_2 wn1_0 wn1_1 wn1_2 W (of_laid hL)).mono fun e W' ⟨he, hg⟩ => ?_
  subst he
  exact ⟨_, rfl, _, _, _, [], [], [], hW', (trodAll_cons_mk (shut_bool Tryd.underlying4 _) trodAll_mk0), (trodAll_cons_mk ((Joins.shut_agg4 (y0 := (.lit (.int .i64 n0_0), [])) (y1 := (.lit (.int .i64 n0_1), [])) (y2 := (.lit (.int .i64 n0_2), [])) (y3 := (.lit (.int .i64 n0_3), [])) Tryd.underlying23 (by kernel_rfl) (show Tryd.prog.cellsOf 23 = 4 by kernel_rfl) ⟨1, by simp [DataW.trod, Tryd.underlying3, wn0_0]⟩ ⟨1, by simp [DataW.trod, Tryd.underlying2, wn0_1]⟩ ⟨1, by simp [DataW.trod, Tryd.underlying2, wn0_2]⟩ ⟨1, by simp [DataW.trod, Tryd.underlying2, wn0_3]⟩)) (trodAll_cons_mk ((Joins.shut_agg3 (y0 := (.lit (.int .i64 n1_0), [])) (y1 := (.lit (.int .i64 n1_1), [])) (y2 := (.lit (.int .i64 n1_2), [])) Tryd.underlying25 (by kernel_rfl) (show Tryd.prog.cellsOf 25 = 3 by kernel_rfl) ⟨1, by simp [DataW.trod, Tryd.underlying3, wn1_0]⟩ ⟨1, by simp [DataW.trod, Tryd.underlying3, wn1_1]⟩ ⟨1, by simp [DataW.trod, Tryd.underlying3, wn1_2]⟩)) trodAll_mk0)), rfl, hg.frame _, fun h => by cases h⟩

theorem over : Rows.showSpansRow.holds Tryd.pinned (OpenSpec.ofChange Rows.showSpansSpec) :=
  OpenClaim.holds_of_wide 3 Tryd.f3 rfl rfl rfl rfl rfl rfl rfl ⟨rfl, rfl, rfl, rfl, rfl⟩ rfl rfl rfl rfl rfl (by kernel_rfl) Tryd.func3 (by kernel_rfl)
    (of_decide_eq_true (by kernel_rfl)) (by unfold Func.isWrapper; first | (rw [if_pos (by decide +kernel)]; kernel_rfl) | (rw [if_neg (by decide +kernel)]; exact ⟨rfl, rfl⟩))
    (fun os started H enc _ => lifted os started H enc)

theorem proved : Rows.ShowSpansCardSaid :=
  Claim7.holds_tied_plain_at .later [] [.data, .data, .data, .data, .data, .pinned] true (true, "f6e142090922ad39922580486145551b747b5f5e0e80057b031efdf5549916e6") false
    over (fun _ h => by cases h) (by kernel_rfl) (fun _ h => by cases h) showSpans_row_tie rfl ⟨rfl, rfl⟩ (by kernel_rfl) rfl
    (fun f fn hf hfn => by
      obtain rfl : f = 3 := Option.some.inj ((show Tryd.prog.funcNamed Rows.showSpansRow.func = some 3 by kernel_rfl).symm.trans hf) |>.symm
      obtain rfl : fn = Tryd.f3 := (Option.some.inj (Tryd.func3.symm.trans hfn)).symm
      exact ⟨by kernel_rfl, fun j t ht => by
        rw [Tryd.params3] at ht
        have hm : t ∈ [23, 25] := by simpa using Array.mem_of_getElem? ht
        have hall : ([23, 25].all fun u => !Tryd.prog.wantsStandIn u) = true := by kernel_rfl
        exact (show Tryd.prog.wantsStandIn t = false by simpa using List.all_eq_true.1 hall t hm)⟩)
    (by kernel_rfl)
end Go.Proofs.YtmohhbgmbicklaaDoor.showSpans
