/- So many days on, and back, is the date; how many days apart two are, on from the one, is the other; the order of dates is that of their days: DayBack returns true for every input, where the table of the months' lengths is as the program's text lays it. -/
import Derived.Test.YtghfgabajdghiaaDoorRows
import Derived.Test.YtghfgabajdghiaaDoorCards
import Derived.Test.YtghfgabajdghiaaDoorTie
import Derived.WalkKit
import Derived.ProofKit
import Derived.LaidMore
import Derived.OpenShut
import Derived.ShutString
import Derived.Stop.Joined
import Derived.Lib.LaidTab
import Derived.Lib.SmallJoins
import Derived.Stop.LaidErr
import Derived.Lay
import Derived.SevenTiedAt
import Derived.ChangeMaps5
import Derived.SizedLaws
import Derived.Lib.LaidU8T
import Derived.Shelf.Vars
import Derived.Test.YtghfgabajdghiaaDoorLwDayBack
namespace Go.Proofs.YtghfgabajdghiaaDoor.dayBack
open Go.ChangeShapes Go.WideShapes Go.ChangeAt Go.WideMaps Go.WideElems Go.RowKit
set_option linter.unusedVariables false

theorem own : ownKnob Tryd.prog.godebug = none := by kernel_rfl

theorem gLen : Tryd.prog.globalNamed "computus/civil.lengths" = some 0 := by kernel_rfl
theorem tLen : (Tryd.prog.globals[0]?).map (·.type) = some 69 := by kernel_rfl
theorem uLen : Tryd.prog.underlying 69 = some (.array 12 2) := by kernel_rfl
/-- what the listed variable gives the walks: the twelve lengths. -/
theorem of_laid {W : World} (h : laidMetH Tryd.prog Rows.dayBackRow.laid W) : Cvl.Lens W := by
  rw [MakeChecks.laidMetH_plain _ _ _ (by kernel_rfl)] at h
  have ht := Lib.tabIs_of_head (k := .i64) (zs := Cvl.tabL) (rest := []) gLen tLen uLen Tryd.underlying2 (by kernel_rfl) (by kernel_rfl) h
  exact fun i hi => ht.cell gLen i hi

theorem door_met (os : Os) (args : Array Value) : laidMetH Tryd.prog Rows.dayBackRow.laid (((World.doorLaid Tryd.prog 400 os)).forCall (fun _ _ => 0) ⟨#[], args, []⟩).memory :=
  laidMetH_of_parts3 (fuel := 8) (laidMet_of_run' 8 (by kernel_rfl) (by kernel_rfl)) (by kernel_rfl) (by kernel_rfl)

theorem on_back {i a n : Int} (n1 : -1099511627776 < n) (n2 : n ≤ 9223372036854775807) (h : mvE i a (smV (a + n)) (smE (a + n)) = 0) :
    mvI (mvI i a) (mvV i a (smV (a + n)) (smE (a + n))) = i ∧ mvV (mvI i a) (mvV i a (smV (a + n)) (smE (a + n))) (smV (mvV i a (smV (a + n)) (smE (a + n)) + -n)) (smE (mvV i a (smV (a + n)) (smE (a + n)) + -n)) = a ∧
      mvE (mvI i a) (mvV i a (smV (a + n)) (smE (a + n))) (smV (mvV i a (smV (a + n)) (smE (a + n)) + -n)) (smE (mvV i a (smV (a + n)) (smE (a + n)) + -n)) = 0 := by
  cases hr : dR i a
  · rw [(mv_no hr _ _).2.2] at h; exact absurd h (by decide)
  · by_cases h0 : i = 0
    · subst h0
      obtain ⟨p, q, r⟩ := mv_yes hr (smV (a + n)) (smE (a + n))
      rw [p, q]
      rw [r] at h
      have hk : smE (a + n) = 0 ∧ dok (smV (a + n)) = true := by
        unfold oE at h
        by_cases k : smE (a + n) = 0 ∧ dok (smV (a + n)) = true
        · exact k
        · rw [if_neg k] at h; exact absurd h (by decide)
      have hv : smV (a + n) = a + n := by
        by_cases k : -9223372036854775808 ≤ a + n ∧ a + n ≤ 9223372036854775807
        · exact smV_in k.1 k.2
        · have := hk.1; rw [smE_out (by omega)] at this; exact absurd this (by decide)
      rw [hv] at hk ⊢
      rw [hk.1, (o_yes hk.2).1]
      have ha := dok_yes hr
      have e1 : a + n + -n = a := by omega
      rw [e1, smV_in (by omega) (by omega), smE_in (by omega) (by omega)]
      obtain ⟨p', q', r'⟩ := mv_yes (d := a + n) hk.2 a 0
      rw [p', q', r', (o_yes hr).1, (o_yes hr).2]
      exact ⟨rfl, rfl, rfl⟩
    · obtain ⟨p, q, r⟩ := mv_inf hr h0 (smV (a + n)) (smE (a + n))
      rw [p, q]
      exact mv_inf hr h0 _ _
theorem apart_on {a b : Int} (ha : dok a = true) (hb : dok b = true) : mvI 0 b = 0 ∧ mvV 0 b (smV (b + (a - b))) (smE (b + (a - b))) = a ∧ mvE 0 b (smV (b + (a - b))) (smE (b + (a - b))) = 0 := by
  have h1 := dok_yes ha
  have e1 : b + (a - b) = a := by omega
  rw [e1, smV_in (by omega) (by omega), smE_in (by omega) (by omega)]
  obtain ⟨p, q, r⟩ := mv_yes (d := b) hb a 0
  rw [p, q, r, (o_yes ha).1, (o_yes ha).2]
  exact ⟨rfl, rfl, rfl⟩
theorem sb_zero {i a j b : Int} (h : sbE i a j b = 0) : i = 0 ∧ j = 0 ∧ dok a = true ∧ dok b = true ∧ sbV i a j b = a - b := by
  unfold sbE at h
  by_cases k : dR i a = true ∧ dR j b = true
  · rw [if_pos k] at h
    by_cases l : i = 0 ∧ j = 0
    · obtain ⟨rfl, rfl⟩ := l
      exact ⟨rfl, rfl, k.1, k.2, if_pos ⟨k.1, k.2, rfl, rfl⟩⟩
    · rw [if_neg l] at h; exact absurd h (by decide)
  · rw [if_neg k] at h; exact absurd h (by decide)

theorem walk (i a : Int) (wi : (Lit.int .i64 i).wf = true) (wa : (Lit.int .i64 a).wf = true) (j b : Int) (wj : (Lit.int .i64 j).wf = true) (wb : (Lit.int .i64 b).wf = true) (n : Int) (wn : (Lit.int .i64 n).wf = true) (w : World) (hT : Cvl.Lens w) :
    Calls Tryd.prog 6 #[.agg #[.int .i64 i, .int .i64 a], .agg #[.int .i64 j, .int .i64 b], .int .i64 n] w fun e w' => e = .returned (.bool true) ∧ Below w.heap.size w w' := by
  obtain ⟨n1, n2⟩ := bounds_i64 wn
  have A1 := fun w hh => dadd_any i a n n1 n2 w hh
  have S1 := fun w hh => dsub_any i a j b w hh
  have KN := fun w hh => known_any w hh
  have C1 := fun w hh => dcmp_any i a j b w hh
  have L := lens_of hT
  by_cases hE : sbE i a j b = 0
  · obtain ⟨rfl, rfl, ha, hb, hD⟩ := sb_zero hE
    rw [hD, hE] at S1
    have g1 := dok_yes ha
    have g2 := dok_yes hb
    have A3 := fun w hh => dadd_any 0 b (a - b) (by omega) (by omega) w hh
    rw [(apart_on ha hb).1, (apart_on ha hb).2.1, (apart_on ha hb).2.2] at A3
    rw [show cpV 0 a 0 b = ordV 0 0 a b from if_pos ⟨ha, hb⟩] at C1
    by_cases hS : mvE 0 a (smV (a + n)) (smE (a + n)) = 0
    · by_cases hn : -1099511627776 < n
      · have A2 := fun w hh => dadd_any (mvI 0 a) (mvV 0 a (smV (a + n)) (smE (a + n))) (-n) (by omega) (by omega) w hh
        obtain ⟨p, q, r⟩ := on_back hn n2 hS
        rw [p, q, r] at A2
        rw [hS] at A1
        rcases Int.lt_trichotomy a b with o | o | o
        · rw [ord_2 o] at C1; exact core_DayBack_cm 0 a 0 b n _ _ (a - b) hn n2 (by omega) A1 A2 S1 A3 C1 KN w L
        · subst o
          rw [ord_5] at C1; rw [Int.sub_self] at S1 A3; exact core_DayBack_cz 0 a 0 a n _ _ hn n2 A1 A2 S1 A3 C1 KN w L
        · rw [ord_4 o] at C1; exact core_DayBack_cp 0 a 0 b n _ _ (a - b) hn n2 (by omega) A1 A2 S1 A3 C1 KN w L
      · rw [hS] at A1
        rcases Int.lt_trichotomy a b with o | o | o
        · rw [ord_2 o] at C1; exact core_DayBack_bm 0 a 0 b n _ _ (a - b) (by omega) (by omega) A1 S1 A3 C1 KN w L
        · subst o
          rw [ord_5] at C1; rw [Int.sub_self] at S1 A3; exact core_DayBack_bz 0 a 0 a n _ _ (by omega) A1 S1 A3 C1 KN w L
        · rw [ord_4 o] at C1; exact core_DayBack_bp 0 a 0 b n _ _ (a - b) (by omega) (by omega) A1 S1 A3 C1 KN w L
    · rcases Int.lt_trichotomy a b with o | o | o
      · rw [ord_2 o] at C1; exact core_DayBack_am 0 a 0 b n _ _ _ (a - b) hS (by omega) A1 S1 A3 C1 KN w L
      · subst o
        rw [ord_5] at C1; rw [Int.sub_self] at S1 A3; exact core_DayBack_az 0 a 0 a n _ _ _ hS A1 S1 A3 C1 KN w L
      · rw [ord_4 o] at C1; exact core_DayBack_ap 0 a 0 b n _ _ _ (a - b) hS (by omega) A1 S1 A3 C1 KN w L
  · by_cases hS : mvE i a (smV (a + n)) (smE (a + n)) = 0
    · by_cases hn : -1099511627776 < n
      · have t1 : -9223372036854775808 ≤ -n := by omega
        have t2 : -n ≤ 9223372036854775807 := by omega
        have A2 := fun w hh => dadd_any (mvI i a) (mvV i a (smV (a + n)) (smE (a + n))) (-n) t1 t2 w hh
        obtain ⟨p, q, r⟩ := on_back hn n2 hS
        rw [p, q, r] at A2
        rw [hS] at A1
        exact core_DayBack_cn i a j b n _ _ _ _ hn n2 hE A1 A2 S1 KN w L
      · rw [hS] at A1
        exact core_DayBack_bn i a j b n _ _ _ _ (by omega) hE A1 S1 KN w L
    · exact core_DayBack_an i a j b n _ _ _ _ _ hS hE A1 S1 KN w L

set_option maxRecDepth 100000 in
theorem lifted (os : Os) (started : os.Started) (H : Type) (enc : TypeId × Value → H) :
    ReturnsInHanded {} Tryd.checked os 6 .any (fun w args => (Rows.dayBackSpec.pre enc Tryd.prog Tryd.f6 [] false w args ∧ laidMetH Tryd.prog Rows.dayBackRow.laid w) ∧ sizedMet enc Tryd.prog Tryd.f6 (OpenSpec.ofChange Rows.dayBackSpec) false w args)
      (Rows.dayBackSpec.post enc Tryd.prog Tryd.f6 false true false false) := by
  refine returnsInHanded_of_change_and (C := Tryd.checked) (X := fun w _ => laidMetH Tryd.prog Rows.dayBackRow.laid w) (fun _ _ _ hh h => h.of_heap hh) own started (by kernel_rfl) Tryd.func6
    (ChangeSpec.witness_shaped (enc := enc) (C := Tryd.checked) (os := os) (X := fun w _ => laidMetH Tryd.prog Rows.dayBackRow.laid w) false (World.doorLaid Tryd.prog 400 os) #[.agg #[.int .i64 0, .int .i64 0], .agg #[.int .i64 0, .int .i64 0], .int .i64 0] 8 rfl (World.shaped_of_RefB (by kernel_rfl) (by kernel_rfl)) (by kernel_rfl) (by kernel_rfl) (by kernel_rfl) (door_met os _)) ?_
  intro W base args ds gs before hval0 hW _ _ hL _
  have hval : ∀ (j : Nat) t v, Tryd.f6.params[j]? = some t → args[j]? = some v → Value.okWide Tryd.prog W .any base t v := hval0
  have hW' := hW
  obtain ⟨p, q, hA0, hV, rfl, hfz, hnd⟩ := hW
  have hA : DataW.TrodAll enc Tryd.prog W 0 (fun _ => true) true Tryd.f6.params.toList args.toList ds p := hA0
  rw [Tryd.params6] at hA hval
  obtain ⟨v0, vs0, d0, ds0, p0, q0, ha0, rfl, rfl, h0, r0⟩ := trodAll_cons hA
  obtain ⟨v1, vs1, d1, ds1, p1, q1, ha1, rfl, rfl, h1, r1⟩ := trodAll_cons r0
  obtain ⟨v2, vs2, d2, ds2, p2, q2, ha2, rfl, rfl, h2, r2⟩ := trodAll_cons r1
  obtain ⟨rfl, rfl, rfl⟩ := trodAll_nil r2
  subst ha2
  subst ha1
  obtain rfl : args = #[v0, v1, v2] := by cases args; simp_all
  obtain ⟨rfl, rfl⟩ := trodVars_none hV
  obtain ⟨c0_0, c0_1, y0_0, y0_1, m0, rfl, rfl, rfl, hy0_0, hy0_1⟩ := Joins.open_agg2 Tryd.underlying23 (by kernel_rfl) (show Tryd.prog.cellsOf 23 = 2 by kernel_rfl) (hval 0 23 v0 rfl rfl) h0
  obtain ⟨n0_0, i0_0, rfl, wn0_0⟩ := DataW.trod_int Tryd.underlying3 hy0_0
  simp at i0_0
  subst i0_0
  obtain ⟨n0_1, i0_1, rfl, wn0_1⟩ := DataW.trod_int Tryd.underlying2 hy0_1
  simp at i0_1
  subst i0_1
  obtain ⟨c1_0, c1_1, y1_0, y1_1, m1, rfl, rfl, rfl, hy1_0, hy1_1⟩ := Joins.open_agg2 Tryd.underlying23 (by kernel_rfl) (show Tryd.prog.cellsOf 23 = 2 by kernel_rfl) (hval 1 23 v1 rfl rfl) h1
  obtain ⟨n1_0, i1_0, rfl, wn1_0⟩ := DataW.trod_int Tryd.underlying3 hy1_0
  simp at i1_0
  subst i1_0
  obtain ⟨n1_1, i1_1, rfl, wn1_1⟩ := DataW.trod_int Tryd.underlying2 hy1_1
  simp at i1_1
  subst i1_1
  obtain ⟨a2, rfl, rfl, rfl, w2⟩ := open_int Tryd.underlying2 (hval 2 2 v2 rfl rfl) h2
  clear hA0 hval0
  simp only [List.append_nil] at hW'
  refine (walk n0_0 n0_1 wn0_0 wn0_1 n1_0 n1_1 wn1_0 wn1_1 a2 w2 W (of_laid hL)).mono fun e W' ⟨he, hg⟩ => ?_
  subst he
  exact ⟨_, rfl, _, _, _, [], [], [], hW', (trodAll_cons_mk (shut_bool Tryd.underlying4 _) trodAll_mk0), (trodAll_cons_mk ((Joins.shut_agg2 (y0 := (.lit (.int .i64 n0_0), [])) (y1 := (.lit (.int .i64 n0_1), [])) Tryd.underlying23 (by kernel_rfl) (show Tryd.prog.cellsOf 23 = 2 by kernel_rfl) ⟨1, by simp [DataW.trod, Tryd.underlying3, wn0_0]⟩ ⟨1, by simp [DataW.trod, Tryd.underlying2, wn0_1]⟩)) (trodAll_cons_mk ((Joins.shut_agg2 (y0 := (.lit (.int .i64 n1_0), [])) (y1 := (.lit (.int .i64 n1_1), [])) Tryd.underlying23 (by kernel_rfl) (show Tryd.prog.cellsOf 23 = 2 by kernel_rfl) ⟨1, by simp [DataW.trod, Tryd.underlying3, wn1_0]⟩ ⟨1, by simp [DataW.trod, Tryd.underlying2, wn1_1]⟩)) (trodAll_cons_mk (shut_int Tryd.underlying2 w2) trodAll_mk0))), rfl, hg.frame _, fun h => by cases h⟩

theorem over : Rows.dayBackRow.holds Tryd.pinned (OpenSpec.ofChange Rows.dayBackSpec) :=
  OpenClaim.holds_of_wide 6 Tryd.f6 rfl rfl rfl rfl rfl rfl rfl ⟨rfl, rfl, rfl, rfl, rfl⟩ rfl rfl rfl rfl rfl (by kernel_rfl) Tryd.func6 (by kernel_rfl)
    (of_decide_eq_true (by kernel_rfl)) (by unfold Func.isWrapper; first | (rw [if_pos (by decide +kernel)]; kernel_rfl) | (rw [if_neg (by decide +kernel)]; exact ⟨rfl, rfl⟩))
    (fun os started H enc _ => lifted os started H enc)

theorem proved : Rows.DayBackCardSaid :=
  Claim7.holds_tied_plain_at .later [] [.data] true (true, "ee6236e5d73ea5aaf834aeb57ea8ae40be55530693a6c9e83285e2346e9c90fa") false
    over (fun _ h => by cases h) (by kernel_rfl) (fun _ h => by cases h) dayBack_row_tie rfl ⟨rfl, rfl⟩ (by kernel_rfl) rfl
    (fun f fn hf hfn => by
      obtain rfl : f = 6 := Option.some.inj ((show Tryd.prog.funcNamed Rows.dayBackRow.func = some 6 by kernel_rfl).symm.trans hf) |>.symm
      obtain rfl : fn = Tryd.f6 := (Option.some.inj (Tryd.func6.symm.trans hfn)).symm
      exact ⟨by kernel_rfl, fun j t ht => by
        rw [Tryd.params6] at ht
        have hm : t ∈ [23, 2] := by simpa using Array.mem_of_getElem? ht
        have hall : ([23, 2].all fun u => !Tryd.prog.wantsStandIn u) = true := by kernel_rfl
        exact (show Tryd.prog.wantsStandIn t = false by simpa using List.all_eq_true.1 hall t hm)⟩)
    (by kernel_rfl)
end Go.Proofs.YtghfgabajdghiaaDoor.dayBack
