/- The stamp of a stamp's date and time is the stamp, and its date's start is less than a day ahead: DayWhole returns true for every stamp, where the table of the months' lengths is as the program's text lays it. -/
import Derived.Test.YtghfgabajdghiaaDoorRows
import Derived.Test.YtghfgabajdghiaaDoorCards
import Derived.Test.YtghfgabajdghiaaDoorTie
import Derived.WalkKit
import Derived.ProofKit
import Derived.LaidMore
import Derived.OpenShut
import Derived.ShutString
import Derived.Stop.Joined
import Derived.Lib.LaidTab
import Derived.Lib.SmallJoins
import Derived.Stop.LaidErr
import Derived.Lay
import Derived.SevenTiedAt
import Derived.ChangeMaps5
import Derived.SizedLaws
import Derived.Lib.LaidU8T
import Derived.Shelf.Vars
import Derived.Test.YtghfgabajdghiaaDoorLwDayWhole
namespace Go.Proofs.YtghfgabajdghiaaDoor.dayWhole
open Go.ChangeShapes Go.WideShapes Go.ChangeAt Go.WideMaps Go.WideElems Go.RowKit
set_option linter.unusedVariables false

theorem own : ownKnob Tryd.prog.godebug = none := by kernel_rfl

theorem gLen : Tryd.prog.globalNamed "computus/civil.lengths" = some 0 := by kernel_rfl
theorem tLen : (Tryd.prog.globals[0]?).map (·.type) = some 69 := by kernel_rfl
theorem uLen : Tryd.prog.underlying 69 = some (.array 12 2) := by kernel_rfl
/-- what the listed variable gives the walks: the twelve lengths. -/
theorem of_laid {W : World} (h : laidMetH Tryd.prog Rows.dayWholeRow.laid W) : Cvl.Lens W := by
  rw [MakeChecks.laidMetH_plain _ _ _ (by kernel_rfl)] at h
  have ht := Lib.tabIs_of_head (k := .i64) (zs := Cvl.tabL) (rest := []) gLen tLen uLen Tryd.underlying2 (by kernel_rfl) (by kernel_rfl) h
  exact fun i hi => ht.cell gLen i hi

theorem door_met (os : Os) (args : Array Value) : laidMetH Tryd.prog Rows.dayWholeRow.laid (((World.doorLaid Tryd.prog 400 os)).forCall (fun _ _ => 0) ⟨#[], args, []⟩).memory :=
  laidMetH_of_parts3 (fuel := 8) (laidMet_of_run' 8 (by kernel_rfl) (by kernel_rfl)) (by kernel_rfl) (by kernel_rfl)

theorem walk (i u : Int) (wi : (Lit.int .i64 i).wf = true) (wu : (Lit.int .i64 u).wf = true) (w : World) (hT : Cvl.Lens w) :
    Calls Tryd.prog 7 #[.agg #[.int .i64 i, .int .i64 u]] w fun e w' => e = .returned (.bool true) ∧ Below w.heap.size w w' := by
  obtain ⟨u1, u2⟩ := bounds_i64 wu
  have O1 := fun w hh => sof_any i u u1 u2 w hh
  have KN := fun w hh => known_any w hh
  cases hr : sR i u
  · have Q := fun w => rrst_any i u u1 u2 w
    rw [hr] at Q
    exact core_DayWholeNo i u _ _ _ _ (by unfold ofE; rw [hr, if_neg (by decide)]; decide) O1 Q KN w (lens_of hT)
  · have e0 : ofE i u = 0 := if_pos hr
    have eI : ofI i u = i := if_pos hr
    rw [e0, eI] at O1
    by_cases h0 : i = 0
    · subst h0
      have hk : dok (u / 86400000000) = true := hr
      have eD : ofD 0 u = u / 86400000000 := if_pos ⟨hr, rfl⟩
      have eU : ofU 0 u = u % 86400000000 := if_pos ⟨hr, rfl⟩
      rw [eD, eU] at O1
      have hs : stR 0 (u / 86400000000) (u % 86400000000) := ⟨hk, by omega, by omega⟩
      have hs0 : stR 0 (u / 86400000000) 0 := ⟨hk, by omega, by omega⟩
      have s1 : u / 86400000000 * 86400000000 + u % 86400000000 = u := by omega
      have s2 : u / 86400000000 * 86400000000 + 0 = u - u % 86400000000 := by omega
      have s3 : (u - u % 86400000000) / 86400000000 = u / 86400000000 := by omega
      have S1 := fun w hh => stamp_any 0 (u / 86400000000) (u % 86400000000) w hh
      obtain ⟨a, b, c⟩ := st_in hs (by rw [s1]; exact hk)
      rw [a, b, c, s1] at S1
      have S2 := fun w hh => start_any 0 (u / 86400000000) w hh
      obtain ⟨a, b, c⟩ := st_in hs0 (by rw [s2, s3]; exact hk)
      rw [a, b, c, s2] at S2
      have g := dok_yes hk
      have C1 := fun w hh => scmp_any 0 (u - u % 86400000000) 0 u (by omega) (by omega) u1 u2 w hh
      have hz : spV 0 (u - u % 86400000000) 0 u ≤ 0 := by
        unfold spV
        split
        · unfold ordV
          split
          · decide
          · rw [if_neg (by omega)]; decide
        · decide
      exact core_DayWhole 0 u _ _ _ _ hz (by omega) (by omega) (by omega) (by omega) O1 S1 S2 C1 KN w (lens_of hT)
    · have hr' := hr
      rw [sR_1 h0] at hr'
      obtain ⟨hi, rfl⟩ := of_decide_eq_true hr'
      have eD : ofD i 0 = 0 := if_neg (fun k => h0 k.2)
      have eU : ofU i 0 = 0 := if_neg (fun k => h0 k.2)
      rw [eD, eU] at O1
      have hs : stR i 0 0 := ⟨by rw [dR_1 h0]; exact decide_eq_true ⟨hi, rfl⟩, by omega, by omega⟩
      obtain ⟨a, b, c⟩ := st_infs hs h0
      have S1 := fun w hh => stamp_any i 0 0 w hh
      have S2 := fun w hh => start_any i 0 w hh
      rw [a, b, c] at S1 S2
      have C1 := fun w hh => scmp_any i 0 i 0 (by decide) (by decide) (by decide) (by decide) w hh
      have hz : spV i 0 i 0 ≤ 0 := by
        unfold spV
        split
        · rw [ord_5]; decide
        · decide
      exact core_DayWhole i 0 i 0 0 _ hz (by decide) (by decide) (by decide) (by decide) O1 S1 S2 C1 KN w (lens_of hT)

set_option maxRecDepth 100000 in
theorem lifted (os : Os) (started : os.Started) (H : Type) (enc : TypeId × Value → H) :
    ReturnsInHanded {} Tryd.checked os 7 .any (fun w args => (Rows.dayWholeSpec.pre enc Tryd.prog Tryd.f7 [] false w args ∧ laidMetH Tryd.prog Rows.dayWholeRow.laid w) ∧ sizedMet enc Tryd.prog Tryd.f7 (OpenSpec.ofChange Rows.dayWholeSpec) false w args)
      (Rows.dayWholeSpec.post enc Tryd.prog Tryd.f7 false true false false) := by
  refine returnsInHanded_of_change_and (C := Tryd.checked) (X := fun w _ => laidMetH Tryd.prog Rows.dayWholeRow.laid w) (fun _ _ _ hh h => h.of_heap hh) own started (by kernel_rfl) Tryd.func7
    (ChangeSpec.witness_shaped (enc := enc) (C := Tryd.checked) (os := os) (X := fun w _ => laidMetH Tryd.prog Rows.dayWholeRow.laid w) false (World.doorLaid Tryd.prog 400 os) #[.agg #[.int .i64 0, .int .i64 0]] 8 rfl (World.shaped_of_RefB (by kernel_rfl) (by kernel_rfl)) (by kernel_rfl) (by kernel_rfl) (by kernel_rfl) (door_met os _)) ?_
  intro W base args ds gs before hval0 hW _ _ hL _
  have hval : ∀ (j : Nat) t v, Tryd.f7.params[j]? = some t → args[j]? = some v → Value.okWide Tryd.prog W .any base t v := hval0
  have hW' := hW
  obtain ⟨p, q, hA0, hV, rfl, hfz, hnd⟩ := hW
  have hA : DataW.TrodAll enc Tryd.prog W 0 (fun _ => true) true Tryd.f7.params.toList args.toList ds p := hA0
  rw [Tryd.params7] at hA hval
  obtain ⟨v0, vs0, d0, ds0, p0, q0, ha0, rfl, rfl, h0, r0⟩ := trodAll_cons hA
  obtain ⟨rfl, rfl, rfl⟩ := trodAll_nil r0
  obtain rfl : args = #[v0] := by cases args; simp_all
  obtain ⟨rfl, rfl⟩ := trodVars_none hV
  obtain ⟨c0_0, c0_1, y0_0, y0_1, m0, rfl, rfl, rfl, hy0_0, hy0_1⟩ := Joins.open_agg2 Tryd.underlying38 (by kernel_rfl) (show Tryd.prog.cellsOf 38 = 2 by kernel_rfl) (hval 0 38 v0 rfl rfl) h0
  obtain ⟨n0_0, i0_0, rfl, wn0_0⟩ := DataW.trod_int Tryd.underlying3 hy0_0
  simp at i0_0
  subst i0_0
  obtain ⟨n0_1, i0_1, rfl, wn0_1⟩ := DataW.trod_int Tryd.underlying2 hy0_1
  simp at i0_1
  subst i0_1
  clear hA0 hval0
  simp only [List.append_nil] at hW'
  refine (walk n0_0 n0_1 wn0_0 wn0_1 W (of_laid hL)).mono fun e W' ⟨he, hg⟩ => ?_
  subst he
  exact ⟨_, rfl, _, _, _, [], [], [], hW', (trodAll_cons_mk (shut_bool Tryd.underlying4 _) trodAll_mk0), (trodAll_cons_mk ((Joins.shut_agg2 (y0 := (.lit (.int .i64 n0_0), [])) (y1 := (.lit (.int .i64 n0_1), [])) Tryd.underlying38 (by kernel_rfl) (show Tryd.prog.cellsOf 38 = 2 by kernel_rfl) ⟨1, by simp [DataW.trod, Tryd.underlying3, wn0_0]⟩ ⟨1, by simp [DataW.trod, Tryd.underlying2, wn0_1]⟩)) trodAll_mk0), rfl, hg.frame _, fun h => by cases h⟩

theorem over : Rows.dayWholeRow.holds Tryd.pinned (OpenSpec.ofChange Rows.dayWholeSpec) :=
  OpenClaim.holds_of_wide 7 Tryd.f7 rfl rfl rfl rfl rfl rfl rfl ⟨rfl, rfl, rfl, rfl, rfl⟩ rfl rfl rfl rfl rfl (by kernel_rfl) Tryd.func7 (by kernel_rfl)
    (of_decide_eq_true (by kernel_rfl)) (by unfold Func.isWrapper; first | (rw [if_pos (by decide +kernel)]; kernel_rfl) | (rw [if_neg (by decide +kernel)]; exact ⟨rfl, rfl⟩))
    (fun os started H enc _ => lifted os started H enc)

theorem proved : Rows.DayWholeCardSaid :=
  Claim7.holds_tied_plain_at .later [] [.data] true (true, "ee6236e5d73ea5aaf834aeb57ea8ae40be55530693a6c9e83285e2346e9c90fa") false
    over (fun _ h => by cases h) (by kernel_rfl) (fun _ h => by cases h) dayWhole_row_tie rfl ⟨rfl, rfl⟩ (by kernel_rfl) rfl
    (fun f fn hf hfn => by
      obtain rfl : f = 7 := Option.some.inj ((show Tryd.prog.funcNamed Rows.dayWholeRow.func = some 7 by kernel_rfl).symm.trans hf) |>.symm
      obtain rfl : fn = Tryd.f7 := (Option.some.inj (Tryd.func7.symm.trans hfn)).symm
      exact ⟨by kernel_rfl, fun j t ht => by
        rw [Tryd.params7] at ht
        have hm : t ∈ [38] := by simpa using Array.mem_of_getElem? ht
        have hall : ([38].all fun u => !Tryd.prog.wantsStandIn u) = true := by kernel_rfl
        exact (show Tryd.prog.wantsStandIn t = false by simpa using List.all_eq_true.1 hall t hm)⟩)
    (by kernel_rfl)
end Go.Proofs.YtghfgabajdghiaaDoor.dayWhole
