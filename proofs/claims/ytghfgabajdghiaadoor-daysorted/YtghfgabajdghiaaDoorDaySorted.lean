/- Stamps are in the order of their dates, and of their times on the same date: DaySorted returns true for every two stamps, where the table of the months' lengths is as the program's text lays it. -/
import Derived.Test.YtghfgabajdghiaaDoorRows
import Derived.Test.YtghfgabajdghiaaDoorCards
import Derived.Test.YtghfgabajdghiaaDoorTie
import Derived.WalkKit
import Derived.ProofKit
import Derived.LaidMore
import Derived.OpenShut
import Derived.ShutString
import Derived.Stop.Joined
import Derived.Lib.LaidTab
import Derived.Lib.SmallJoins
import Derived.Stop.LaidErr
import Derived.Lay
import Derived.SevenTiedAt
import Derived.ChangeMaps5
import Derived.SizedLaws
import Derived.Lib.LaidU8T
import Derived.Shelf.Vars
import Derived.Test.YtghfgabajdghiaaDoorLwDaySorted
namespace Go.Proofs.YtghfgabajdghiaaDoor.daySorted
open Go.ChangeShapes Go.WideShapes Go.ChangeAt Go.WideMaps Go.WideElems Go.RowKit
set_option linter.unusedVariables false

theorem own : ownKnob Tryd.prog.godebug = none := by kernel_rfl

theorem gLen : Tryd.prog.globalNamed "computus/civil.lengths" = some 0 := by kernel_rfl
theorem tLen : (Tryd.prog.globals[0]?).map (·.type) = some 69 := by kernel_rfl
theorem uLen : Tryd.prog.underlying 69 = some (.array 12 2) := by kernel_rfl
/-- what the listed variable gives the walks: the twelve lengths. -/
theorem of_laid {W : World} (h : laidMetH Tryd.prog Rows.daySortedRow.laid W) : Cvl.Lens W := by
  rw [MakeChecks.laidMetH_plain _ _ _ (by kernel_rfl)] at h
  have ht := Lib.tabIs_of_head (k := .i64) (zs := Cvl.tabL) (rest := []) gLen tLen uLen Tryd.underlying2 (by kernel_rfl) (by kernel_rfl) h
  exact fun i hi => ht.cell gLen i hi

theorem door_met (os : Os) (args : Array Value) : laidMetH Tryd.prog Rows.daySortedRow.laid (((World.doorLaid Tryd.prog 400 os)).forCall (fun _ _ => 0) ⟨#[], args, []⟩).memory :=
  laidMetH_of_parts3 (fuel := 8) (laidMet_of_run' 8 (by kernel_rfl) (by kernel_rfl)) (by kernel_rfl) (by kernel_rfl)

theorem sp_no1 {i u : Int} (h : sR i u = false) (j v : Int) : spV i u j v = 0 := if_neg (fun k => by rw [h] at k; exact absurd k.1 (by decide))
theorem sp_no2 {j v : Int} (h : sR j v = false) (i u : Int) : spV i u j v = 0 := if_neg (fun k => by rw [h] at k; exact absurd k.2 (by decide))
theorem of_right {i u : Int} (h : sR i u = true) : dR i (ofD i u) = true := by
  by_cases h0 : i = 0
  · subst h0
    rw [show ofD 0 u = u / 86400000000 from if_pos ⟨h, rfl⟩]; exact h
  · rw [show ofD i u = 0 from if_neg (fun k => h0 k.2), dR_1 h0]
    rw [sR_1 h0] at h
    exact decide_eq_true ⟨(of_decide_eq_true h).1, rfl⟩
theorem of_parts {i u : Int} (h : sR i u = true) : (i = 0 ∧ ofD i u = u / 86400000000 ∧ ofU i u = u % 86400000000) ∨ (i ≠ 0 ∧ u = 0 ∧ ofD i u = 0 ∧ ofU i u = 0) := by
  by_cases h0 : i = 0
  · exact .inl ⟨h0, if_pos ⟨h, h0⟩, if_pos ⟨h, h0⟩⟩
  · have h' := h
    rw [sR_1 h0] at h'
    exact .inr ⟨h0, (of_decide_eq_true h').2, if_neg (fun k => h0 k.2), if_neg (fun k => h0 k.2)⟩

theorem walk (i u : Int) (wi : (Lit.int .i64 i).wf = true) (wu : (Lit.int .i64 u).wf = true) (j v : Int) (wj : (Lit.int .i64 j).wf = true) (wv : (Lit.int .i64 v).wf = true) (w : World) (hT : Cvl.Lens w) :
    Calls Tryd.prog 8 #[.agg #[.int .i64 i, .int .i64 u], .agg #[.int .i64 j, .int .i64 v]] w fun e w' => e = .returned (.bool true) ∧ Below w.heap.size w w' := by
  obtain ⟨u1, u2⟩ := bounds_i64 wu
  obtain ⟨v1, v2⟩ := bounds_i64 wv
  have O1 := fun w hh => sof_any i u u1 u2 w hh
  have O2 := fun w hh => sof_any j v v1 v2 w hh
  have C1 := fun w hh => scmp_any i u j v u1 u2 v1 v2 w hh
  have KN := fun w hh => known_any w hh
  have L := lens_of hT
  cases hr : sR i u
  · rw [sp_no1 hr] at C1
    exact core_DaySortedNo1 i u j v _ _ _ _ _ _ _ _ (by unfold ofE; rw [hr, if_neg (by decide)]; decide) O1 O2 C1 KN w L
  · have e0 : ofE i u = 0 := if_pos hr
    have eI : ofI i u = i := if_pos hr
    rw [e0, eI] at O1
    cases hs : sR j v
    · rw [sp_no2 hs] at C1
      exact core_DaySortedNo2 i u j v _ _ _ _ _ _ _ (by unfold ofE; rw [hs, if_neg (by decide)]; decide) O1 O2 C1 KN w L
    · have e0 : ofE j v = 0 := if_pos hs
      have eI : ofI j v = j := if_pos hs
      rw [e0, eI] at O2
      have D1 := fun w hh => dcmp_any i (ofD i u) j (ofD j v) w hh
      rw [show cpV i (ofD i u) j (ofD j v) = ordV i j (ofD i u) (ofD j v) from if_pos ⟨of_right hr, of_right hs⟩] at D1
      rw [show spV i u j v = ordV i j u v from if_pos ⟨hr, hs⟩] at C1
      rcases Int.lt_trichotomy i j with o | o | o
      · rw [ord_1 o] at C1 D1; exact core_DaySorted_m i u j v _ _ _ _ _ _ O1 O2 D1 C1 KN w L
      · subst o
        have P1 := of_parts hr
        have P2 := of_parts hs
        rcases Int.lt_trichotomy (ofD i u) (ofD i v) with o | o | o
        · have : u < v := by omega
          rw [ord_2 o] at D1; rw [ord_2 this] at C1; exact core_DaySorted_m i u i v _ _ _ _ _ _ O1 O2 D1 C1 KN w L
        · rw [o, ord_5] at D1
          rw [o] at O1
          rcases Int.lt_trichotomy (ofU i u) (ofU i v) with p | p | p
          · have : u < v := by omega
            rw [ord_2 this] at C1; exact core_DaySorted_lt i u i v _ _ _ _ _ _ p O1 O2 D1 C1 KN w L
          · have : u = v := by omega
            rw [this, ord_5] at C1; rw [this] at O1 p; subst this; exact core_DaySorted_eq i u i u _ _ _ _ _ _ rfl O1 O2 D1 C1 KN w L
          · have : v < u := by omega
            rw [ord_4 this] at C1; exact core_DaySorted_gt i u i v _ _ _ _ _ _ p O1 O2 D1 C1 KN w L
        · have : v < u := by omega
          rw [ord_4 o] at D1; rw [ord_4 this] at C1; exact core_DaySorted_p i u i v _ _ _ _ _ _ O1 O2 D1 C1 KN w L
      · rw [ord_3 o] at C1 D1; exact core_DaySorted_p i u j v _ _ _ _ _ _ O1 O2 D1 C1 KN w L

set_option maxRecDepth 100000 in
theorem lifted (os : Os) (started : os.Started) (H : Type) (enc : TypeId × Value → H) :
    ReturnsInHanded {} Tryd.checked os 8 .any (fun w args => (Rows.daySortedSpec.pre enc Tryd.prog Tryd.f8 [] false w args ∧ laidMetH Tryd.prog Rows.daySortedRow.laid w) ∧ sizedMet enc Tryd.prog Tryd.f8 (OpenSpec.ofChange Rows.daySortedSpec) false w args)
      (Rows.daySortedSpec.post enc Tryd.prog Tryd.f8 false true false false) := by
  refine returnsInHanded_of_change_and (C := Tryd.checked) (X := fun w _ => laidMetH Tryd.prog Rows.daySortedRow.laid w) (fun _ _ _ hh h => h.of_heap hh) own started (by kernel_rfl) Tryd.func8
    (ChangeSpec.witness_shaped (enc := enc) (C := Tryd.checked) (os := os) (X := fun w _ => laidMetH Tryd.prog Rows.daySortedRow.laid w) false (World.doorLaid Tryd.prog 400 os) #[.agg #[.int .i64 0, .int .i64 0], .agg #[.int .i64 0, .int .i64 0]] 8 rfl (World.shaped_of_RefB (by kernel_rfl) (by kernel_rfl)) (by kernel_rfl) (by kernel_rfl) (by kernel_rfl) (door_met os _)) ?_
  intro W base args ds gs before hval0 hW _ _ hL _
  have hval : ∀ (j : Nat) t v, Tryd.f8.params[j]? = some t → args[j]? = some v → Value.okWide Tryd.prog W .any base t v := hval0
  have hW' := hW
  obtain ⟨p, q, hA0, hV, rfl, hfz, hnd⟩ := hW
  have hA : DataW.TrodAll enc Tryd.prog W 0 (fun _ => true) true Tryd.f8.params.toList args.toList ds p := hA0
  rw [Tryd.params8] at hA hval
  obtain ⟨v0, vs0, d0, ds0, p0, q0, ha0, rfl, rfl, h0, r0⟩ := trodAll_cons hA
  obtain ⟨v1, vs1, d1, ds1, p1, q1, ha1, rfl, rfl, h1, r1⟩ := trodAll_cons r0
  obtain ⟨rfl, rfl, rfl⟩ := trodAll_nil r1
  subst ha1
  obtain rfl : args = #[v0, v1] := by cases args; simp_all
  obtain ⟨rfl, rfl⟩ := trodVars_none hV
  obtain ⟨c0_0, c0_1, y0_0, y0_1, m0, rfl, rfl, rfl, hy0_0, hy0_1⟩ := Joins.open_agg2 Tryd.underlying38 (by kernel_rfl) (show Tryd.prog.cellsOf 38 = 2 by kernel_rfl) (hval 0 38 v0 rfl rfl) h0
  obtain ⟨n0_0, i0_0, rfl, wn0_0⟩ := DataW.trod_int Tryd.underlying3 hy0_0
  simp at i0_0
  subst i0_0
  obtain ⟨n0_1, i0_1, rfl, wn0_1⟩ := DataW.trod_int Tryd.underlying2 hy0_1
  simp at i0_1
  subst i0_1
  obtain ⟨c1_0, c1_1, y1_0, y1_1, m1, rfl, rfl, rfl, hy1_0, hy1_1⟩ := Joins.open_agg2 Tryd.underlying38 (by kernel_rfl) (show Tryd.prog.cellsOf 38 = 2 by kernel_rfl) (hval 1 38 v1 rfl rfl) h1
  obtain ⟨n1_0, i1_0, rfl, wn1_0⟩ := DataW.trod_int Tryd.underlying3 hy1_0
  simp at i1_0
  subst i1_0
  obtain ⟨n1_1, i1_1, rfl, wn1_1⟩ := DataW.trod_int Tryd.underlying2 hy1_1
  simp at i1_1
  subst i1_1
  clear hA0 hval0
  simp only [List.append_nil] at hW'
  refine (walk n0_0 n0_1 wn0_0 wn0_1 n1_0 n1_1 wn1_0 wn1_1 W (of_laid hL)).mono fun e W' ⟨he, hg⟩ => ?_
  subst he
  exact ⟨_, rfl, _, _, _, [], [], [], hW', (trodAll_cons_mk (shut_bool Tryd.underlying4 _) trodAll_mk0), (trodAll_cons_mk ((Joins.shut_agg2 (y0 := (.lit (.int .i64 n0_0), [])) (y1 := (.lit (.int .i64 n0_1), [])) Tryd.underlying38 (by kernel_rfl) (show Tryd.prog.cellsOf 38 = 2 by kernel_rfl) ⟨1, by simp [DataW.trod, Tryd.underlying3, wn0_0]⟩ ⟨1, by simp [DataW.trod, Tryd.underlying2, wn0_1]⟩)) (trodAll_cons_mk ((Joins.shut_agg2 (y0 := (.lit (.int .i64 n1_0), [])) (y1 := (.lit (.int .i64 n1_1), [])) Tryd.underlying38 (by kernel_rfl) (show Tryd.prog.cellsOf 38 = 2 by kernel_rfl) ⟨1, by simp [DataW.trod, Tryd.underlying3, wn1_0]⟩ ⟨1, by simp [DataW.trod, Tryd.underlying2, wn1_1]⟩)) trodAll_mk0)), rfl, hg.frame _, fun h => by cases h⟩

theorem over : Rows.daySortedRow.holds Tryd.pinned (OpenSpec.ofChange Rows.daySortedSpec) :=
  OpenClaim.holds_of_wide 8 Tryd.f8 rfl rfl rfl rfl rfl rfl rfl ⟨rfl, rfl, rfl, rfl, rfl⟩ rfl rfl rfl rfl rfl (by kernel_rfl) Tryd.func8 (by kernel_rfl)
    (of_decide_eq_true (by kernel_rfl)) (by unfold Func.isWrapper; first | (rw [if_pos (by decide +kernel)]; kernel_rfl) | (rw [if_neg (by decide +kernel)]; exact ⟨rfl, rfl⟩))
    (fun os started H enc _ => lifted os started H enc)

theorem proved : Rows.DaySortedCardSaid :=
  Claim7.holds_tied_plain_at .later [] [.data] true (true, "ee6236e5d73ea5aaf834aeb57ea8ae40be55530693a6c9e83285e2346e9c90fa") false
    over (fun _ h => by cases h) (by kernel_rfl) (fun _ h => by cases h) daySorted_row_tie rfl ⟨rfl, rfl⟩ (by kernel_rfl) rfl
    (fun f fn hf hfn => by
      obtain rfl : f = 8 := Option.some.inj ((show Tryd.prog.funcNamed Rows.daySortedRow.func = some 8 by kernel_rfl).symm.trans hf) |>.symm
      obtain rfl : fn = Tryd.f8 := (Option.some.inj (Tryd.func8.symm.trans hfn)).symm
      exact ⟨by kernel_rfl, fun j t ht => by
        rw [Tryd.params8] at ht
        have hm : t ∈ [38] := by simpa using Array.mem_of_getElem? ht
        have hall : ([38].all fun u => !Tryd.prog.wantsStandIn u) = true := by kernel_rfl
        exact (show Tryd.prog.wantsStandIn t = false by simpa using List.all_eq_true.1 hall t hm)⟩)
    (by kernel_rfl)
end Go.Proofs.YtghfgabajdghiaaDoor.daySorted
