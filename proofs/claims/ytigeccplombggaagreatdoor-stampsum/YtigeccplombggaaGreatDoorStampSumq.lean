/- A stamp is the other one and how far it is apart, in days or in months: StampSum returns true for every two stamps. -/
import Derived.Test.YtigeccplombggaaGreatDoorRows
import Derived.Test.YtigeccplombggaaGreatDoorCards
import Derived.Test.YtigeccplombggaaGreatDoorTie
import Derived.WalkKit
import Derived.ProofKit
import Derived.LaidMore
import Derived.OpenShut
import Derived.ShutString
import Derived.Stop.Joined
import Derived.Lib.LaidTab
import Derived.Lib.SmallJoins
import Derived.Stop.LaidErr
import Derived.Lay
import Derived.SevenTiedAt
import Derived.ChangeMaps5
import Derived.SizedLaws
import Derived.Lib.LaidU8T
import Derived.Shelf.Vars
import Derived.Test.YtigeccplombggaaGreatDoorLwStampSumq
namespace Go.Proofs.YtigeccplombggaaGreatDoor.stampSum
open Go.ChangeShapes Go.WideShapes Go.ChangeAt Go.WideMaps Go.WideElems Go.RowKit
set_option linter.unusedVariables false

theorem own : ownKnob Tryz.prog.godebug = none := by kernel_rfl

theorem gLen : Tryz.prog.globalNamed "computus/civil.lengths" = some 0 := by kernel_rfl
theorem tLen : (Tryz.prog.globals[0]?).map (·.type) = some 188 := by kernel_rfl
theorem uLen : Tryz.prog.underlying 188 = some (.array 12 2) := by kernel_rfl
/-- what the listed variable gives the walks: the twelve lengths. -/
theorem of_laid {W : World} (h : laidMetH Tryz.prog Rows.stampSumRow.laid W) : Cvl.Lens W := by
  rw [MakeChecks.laidMetH_plain _ _ _ (by kernel_rfl)] at h
  have ht := Lib.tabIs_of_head (k := .i64) (zs := Cvl.tabL) (rest := _) gLen tLen uLen Tryz.underlying2 (by kernel_rfl) (by kernel_rfl) h
  exact fun i hi => ht.cell gLen i hi

theorem door_met (os : Os) (args : Array Value) : laidMetH Tryz.prog Rows.stampSumRow.laid (((World.doorLaid Tryz.prog 400 os)).forCall (fun _ _ => 0) ⟨#[], args, []⟩).memory :=
  laidMetH_of_parts3 (fuel := 8) (laidMet_of_run' 8 (by kernel_rfl) (by kernel_rfl)) (by kernel_rfl) (by kernel_rfl)

theorem dokI {n : Int} (h : -2451507 ≤ n ∧ n ≤ 106751982) : Dy.dok n = true := decide_eq_true h
/-- the days and the rest between two stamps, put onto the one, are the other. -/
theorem add_sub {a b : Int} (da : Dy.dok (a / 86400000000) = true) (db : Dy.dok (b / 86400000000) = true) (h1 : -9223372036854775808 ≤ a - b) (h2 : a - b ≤ 9223372036854775807) :
    AddIs 0 b 0 0 ((a - b).tdiv 86400000000) ((a - b).tmod 86400000000) 0 a 0 := by
  have ka := Dy.dok_yes da
  have kb := Dy.dok_yes db
  obtain ⟨t1, t2, t3, t4⟩ := tdm_bd (a - b) h1 h2
  have e := Int.tmod_add_mul_tdiv (a - b) 86400000000
  have ub := us_bd b
  have sg : (0 ≤ a - b → 0 ≤ (a - b).tdiv 86400000000 ∧ 0 ≤ (a - b).tmod 86400000000) ∧ (a - b ≤ 0 → (a - b).tdiv 86400000000 ≤ 0 ∧ (a - b).tmod 86400000000 ≤ 0) := by
    refine ⟨fun h => ⟨Int.tdiv_nonneg h (by decide), Int.tmod_nonneg _ h⟩, fun h => ?_⟩
    have q1 : 0 ≤ (-(a - b)).tdiv 86400000000 := Int.tdiv_nonneg (by omega) (by decide)
    have q2 : 0 ≤ (-(a - b)).tmod 86400000000 := Int.tmod_nonneg _ (by omega)
    rw [Int.neg_tdiv] at q1
    rw [Int.neg_tmod] at q2
    omega
  generalize (a - b).tdiv 86400000000 = D at *
  generalize (a - b).tmod 86400000000 = U at *
  obtain ⟨y, m, q, hq⟩ := Cv.is_date (b / 86400000000)
  have dd : Dy.dok (b / 86400000000 + D) = true := dokI (by omega)
  have e1 : mdk (b / 86400000000) y m q 0 D = true := by unfold mdk s1k s1v; rw [if_pos rfl, if_pos rfl, dd]; rfl
  have e2 : mdv b y m q 0 D = b + D * 86400000000 := by unfold mdv s1v; rw [if_pos rfl]; omega
  have e3 : b + D * 86400000000 + U = a := by omega
  refine .inr (.inr ⟨rfl, rfl, db, pR_of (by omega), y, m, q, hq, rfl, ?_, ?_⟩)
  · rw [if_pos e1, e2]; unfold moV; rw [e3, if_pos da]
  · rw [if_pos e1, e2]; unfold moE; rw [e3, if_pos da]
/-- and so the months, the days and the rest. -/
theorem add_age {a b y m q y2 m2 q2 k n : Int} (ha : Cv.Is (a / 86400000000) y m q) (hb : Cv.Is (b / 86400000000) y2 m2 q2) (da : Dy.dok (a / 86400000000) = true) (db : Dy.dok (b / 86400000000) = true) (hab : b ≤ a) (hk : k = gK a b (12 * y + m - 1) (12 * y2 + m2 - 1) q2) (hn : n = a - gX b (12 * y2 + m2 - 1) q2 k) :
    0 ≤ k ∧ AddIs 0 b 0 k (n / 86400000000) (n % 86400000000) 0 a 0 ∧ n % 86400000000 < 86400000000 ∧ 0 ≤ n % 86400000000 := by
  obtain ⟨k1, k2, n1, n2, s1, s2, s3, -⟩ := gone_math ha hb da db hab
  rw [← hk] at k1 k2 n1 n2 s1 s2 s3
  rw [← hn] at n1 n2
  have ka := Dy.dok_yes da
  have k3 := Dy.dok_yes s3
  have ub := us_bd b
  have hX : gX b (12 * y2 + m2 - 1) q2 k = Sm.dk (12 * y2 + m2 - 1) q2 k * 86400000000 + b % 86400000000 := rfl
  generalize Sm.dk (12 * y2 + m2 - 1) q2 k = X at *
  rw [hX] at hn
  have dd : Dy.dok (X + n / 86400000000) = true := dokI (by omega)
  have e1 : mdk (b / 86400000000) y2 m2 q2 k (n / 86400000000) = true := by unfold mdk; rw [s1, s2, dd]; rfl
  have e2 : mdv b y2 m2 q2 k (n / 86400000000) = (X + n / 86400000000) * 86400000000 + b % 86400000000 := by unfold mdv; rw [s2]
  have e3 : (X + n / 86400000000) * 86400000000 + b % 86400000000 + n % 86400000000 = a := by omega
  refine ⟨k1, .inr (.inr ⟨rfl, rfl, db, pR_of (by omega), y2, m2, q2, hb, rfl, ?_, ?_⟩), by omega, by omega⟩
  · rw [if_pos e1, e2]; unfold moV; rw [e3, if_pos da]
  · rw [if_pos e1, e2]; unfold moE; rw [e3, if_pos da]

theorem walk (i a : Int) (wi : (Lit.int .i64 i).wf = true) (wa : (Lit.int .i64 a).wf = true) (j b : Int) (wj : (Lit.int .i64 j).wf = true) (wb : (Lit.int .i64 b).wf = true) (w : World) (hL : Cvl.Lens w) :
    Calls Tryz.prog 7 #[.agg #[.int .i64 i, .int .i64 a], .agg #[.int .i64 j, .int .i64 b]] w fun r w' => r = .returned (.bool true) ∧ Below w.heap.size w w' := by
  obtain ⟨a1, a2⟩ := bounds_i64 wa
  obtain ⟨b1, b2⟩ := bounds_i64 wb
  have KN : ∀ w : World, Cvl.Lens w → _ := fun w hw => known_any w hw
  by_cases hi : i = 0
  · by_cases hj : j = 0
    · subst hi hj
      obtain ⟨I, D, U, E, hs⟩ := sub_is 0 a 0 b
      have SB := fun w hw => ssub_any 0 a 0 b I D U E hs a1 a2 b1 b2 w hw
      by_cases hE : E = 0
      · have hs' : Dy.dok (a / 86400000000) = true ∧ Dy.dok (b / 86400000000) = true ∧ I = 0 ∧ smE (a - b) = 0 ∧ D = (a - b).tdiv 86400000000 ∧ U = (a - b).tmod 86400000000 := by
          rcases hs with h | h | ⟨_, _, h1, h2, h3, ⟨h4, h5, h6, -⟩ | h⟩
          · omega
          · exact absurd ⟨rfl, rfl⟩ h.2.2.1
          · exact ⟨h1, h2, h3, h4, h5, h6⟩
          · omega
        obtain ⟨da, db, rfl, h4, rfl, rfl⟩ := hs'
        subst hE
        have hr : -9223372036854775808 ≤ a - b ∧ a - b ≤ 9223372036854775807 := by
          rcases smE_cases (a - b) with h | h
          · exact ⟨h.2.1, h.2.2.1⟩
          · omega
        obtain ⟨t1, t2, t3, t4⟩ := tdm_bd (a - b) hr.1 hr.2
        have A1 := fun w hw => sadd_any 0 b 0 0 _ _ 0 a 0 (add_sub da db hr.1 hr.2) b1 b2 (by omega) (by omega) w hw
        by_cases hab : a < b
        · exact sum_lt a b _ _ hab SB A1 KN w (Dy.lens_of hL)
        · obtain ⟨y, m, q, hq⟩ := Cv.is_date (a / 86400000000)
          obtain ⟨y2, m2, q2, hq2⟩ := Cv.is_date (b / 86400000000)
          obtain ⟨k0, A2, n1, n2⟩ := add_age hq hq2 da db (by omega) rfl rfl
          have AG := fun w hw => sage_any 0 a 0 b 0 _ _ _ 0 (.inr (.inl ⟨rfl, rfl, da, db, by omega, rfl, rfl, y, m, q, y2, m2, q2, hq, hq2, rfl, rfl, rfl⟩)) a1 a2 b1 b2 w hw
          exact sum_ge a b _ _ _ _ _ hab k0 SB A1 AG (fun w hw => sadd_any 0 b 0 _ _ _ 0 a 0 A2 b1 b2 (by omega) (by omega) w hw) KN w (Dy.lens_of hL)
      · exact sum_e a b I D U E hE SB KN w (Dy.lens_of hL)
    · subst hi
      exact sum_j a j b hj KN w (Dy.lens_of hL)
  · exact sum_i i a j b hi KN w (Dy.lens_of hL)

set_option maxRecDepth 100000 in
theorem lifted (os : Os) (started : os.Started) (H : Type) (enc : TypeId × Value → H) :
    ReturnsInHanded {} Tryz.checked os 7 .any (fun w args => (Rows.stampSumSpec.pre enc Tryz.prog Tryz.f7 [] false w args ∧ laidMetH Tryz.prog Rows.stampSumRow.laid w) ∧ sizedMet enc Tryz.prog Tryz.f7 (OpenSpec.ofChange Rows.stampSumSpec) false w args)
      (Rows.stampSumSpec.post enc Tryz.prog Tryz.f7 false true false false) := by
  refine returnsInHanded_of_change_and (C := Tryz.checked) (X := fun w _ => laidMetH Tryz.prog Rows.stampSumRow.laid w) (fun _ _ _ hh h => h.of_heap hh) own started (by kernel_rfl) Tryz.func7
    (ChangeSpec.witness_shaped (enc := enc) (C := Tryz.checked) (os := os) (X := fun w _ => laidMetH Tryz.prog Rows.stampSumRow.laid w) false (World.doorLaid Tryz.prog 400 os) #[.agg #[.int .i64 0, .int .i64 0], .agg #[.int .i64 0, .int .i64 0]] 8 rfl (World.shaped_of_RefB (by kernel_rfl) (by kernel_rfl)) (by kernel_rfl) (by kernel_rfl) (by kernel_rfl) (door_met os _)) ?_
  intro W base args ds gs before hval0 hW _ _ hL _
  have hval : ∀ (j : Nat) t v, Tryz.f7.params[j]? = some t → args[j]? = some v → Value.okWide Tryz.prog W .any base t v := hval0
  have hW' := hW
  obtain ⟨p, q, hA0, hV, rfl, hfz, hnd⟩ := hW
  have hA : DataW.TrodAll enc Tryz.prog W 0 (fun _ => true) true Tryz.f7.params.toList args.toList ds p := hA0
  rw [Tryz.params7] at hA hval
  obtain ⟨v0, vs0, d0, ds0, p0, q0, ha0, rfl, rfl, h0, r0⟩ := trodAll_cons hA
  obtain ⟨v1, vs1, d1, ds1, p1, q1, ha1, rfl, rfl, h1, r1⟩ := trodAll_cons r0
  obtain ⟨rfl, rfl, rfl⟩ := trodAll_nil r1
  subst ha1
  obtain rfl : args = #[v0, v1] := by cases args; simp_all
  obtain ⟨rfl, rfl⟩ := trodVars_none hV
  obtain ⟨c0_0, c0_1, y0_0, y0_1, m0, rfl, rfl, rfl, hy0_0, hy0_1⟩ := Joins.open_agg2 Tryz.underlying36 (by kernel_rfl) (show Tryz.prog.cellsOf 36 = 2 by kernel_rfl) (hval 0 36 v0 rfl rfl) h0
  obtain ⟨n0_0, i0_0, rfl, wn0_0⟩ := DataW.trod_int Tryz.underlying3 hy0_0
  simp at i0_0
  subst i0_0
  obtain ⟨n0_1, i0_1, rfl, wn0_1⟩ := DataW.trod_int Tryz.underlying2 hy0_1
  simp at i0_1
  subst i0_1
  obtain ⟨c1_0, c1_1, y1_0, y1_1, m1, rfl, rfl, rfl, hy1_0, hy1_1⟩ := Joins.open_agg2 Tryz.underlying36 (by kernel_rfl) (show Tryz.prog.cellsOf 36 = 2 by kernel_rfl) (hval 1 36 v1 rfl rfl) h1
  obtain ⟨n1_0, i1_0, rfl, wn1_0⟩ := DataW.trod_int Tryz.underlying3 hy1_0
  simp at i1_0
  subst i1_0
  obtain ⟨n1_1, i1_1, rfl, wn1_1⟩ := DataW.trod_int Tryz.underlying2 hy1_1
  simp at i1_1
  subst i1_1
  clear hA0 hval0
  simp only [List.append_nil] at hW'
  refine (walk n0_0 n0_1 wn0_0 wn0_1 n1_0 n1_1 wn1_0 wn1_1 W (of_laid hL)).mono fun e W' ⟨he, hg⟩ => ?_
  subst he
  exact ⟨_, rfl, _, _, _, [], [], [], hW', (trodAll_cons_mk (shut_bool Tryz.underlying4 _) trodAll_mk0), (trodAll_cons_mk ((Joins.shut_agg2 (y0 := (.lit (.int .i64 n0_0), [])) (y1 := (.lit (.int .i64 n0_1), [])) Tryz.underlying36 (by kernel_rfl) (show Tryz.prog.cellsOf 36 = 2 by kernel_rfl) ⟨1, by simp [DataW.trod, Tryz.underlying3, wn0_0]⟩ ⟨1, by simp [DataW.trod, Tryz.underlying2, wn0_1]⟩)) (trodAll_cons_mk ((Joins.shut_agg2 (y0 := (.lit (.int .i64 n1_0), [])) (y1 := (.lit (.int .i64 n1_1), [])) Tryz.underlying36 (by kernel_rfl) (show Tryz.prog.cellsOf 36 = 2 by kernel_rfl) ⟨1, by simp [DataW.trod, Tryz.underlying3, wn1_0]⟩ ⟨1, by simp [DataW.trod, Tryz.underlying2, wn1_1]⟩)) trodAll_mk0)), rfl, hg.frame _, fun h => by cases h⟩

theorem over : Rows.stampSumRow.holds Tryz.pinned (OpenSpec.ofChange Rows.stampSumSpec) :=
  OpenClaim.holds_of_wide 7 Tryz.f7 rfl rfl rfl rfl rfl rfl rfl ⟨rfl, rfl, rfl, rfl, rfl⟩ rfl rfl rfl rfl rfl (by kernel_rfl) Tryz.func7 (by kernel_rfl)
    (of_decide_eq_true (by kernel_rfl)) (by unfold Func.isWrapper; first | (rw [if_pos (by decide +kernel)]; kernel_rfl) | (rw [if_neg (by decide +kernel)]; exact ⟨rfl, rfl⟩))
    (fun os started H enc _ => lifted os started H enc)

theorem proved : Rows.StampSumCardSaid :=
  Claim7.holds_tied_plain_at .later [] [.data, .data, .data, .data] true (true, "de0d66b81f8f1f759ce10347d8bd7908ebb32187abf8d7d18a4f3cf38dcd3b7e") true
    over (fun _ h => by cases h) (by kernel_rfl) (fun _ h => by cases h) stampSum_row_tie rfl ⟨rfl, rfl⟩ (by kernel_rfl) rfl
    (fun f fn hf hfn => by
      obtain rfl : f = 7 := Option.some.inj ((show Tryz.prog.funcNamed Rows.stampSumRow.func = some 7 by kernel_rfl).symm.trans hf) |>.symm
      obtain rfl : fn = Tryz.f7 := (Option.some.inj (Tryz.func7.symm.trans hfn)).symm
      exact ⟨by kernel_rfl, fun j t ht => by
        rw [Tryz.params7] at ht
        have hm : t ∈ [36] := by simpa using Array.mem_of_getElem? ht
        have hall : ([36].all fun u => !Tryz.prog.wantsStandIn u) = true := by kernel_rfl
        exact (show Tryz.prog.wantsStandIn t = false by simpa using List.all_eq_true.1 hall t hm)⟩)
    (by kernel_rfl)
end Go.Proofs.YtigeccplombggaaGreatDoor.stampSum
