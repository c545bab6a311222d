/- What is cut at a field is not behind the stamp, cut again it is the same, and a greater field's is not behind a lesser one's: OpsLess returns true for every field and stamp. -/
import Derived.Test.YtofmmdfdiaahhaaGreatDoorRows
import Derived.Test.YtofmmdfdiaahhaaGreatDoorCards
import Derived.Test.YtofmmdfdiaahhaaGreatDoorTie
import Derived.WalkKit
import Derived.ProofKit
import Derived.LaidMore
import Derived.OpenShut
import Derived.ShutString
import Derived.Stop.Joined
import Derived.Lib.LaidTab
import Derived.Lib.SmallJoins
import Derived.Stop.LaidErr
import Derived.Lay
import Derived.SevenTiedAt
import Derived.ChangeMaps5
import Derived.SizedLaws
import Derived.Lib.LaidU8T
import Derived.Shelf.Vars
import Derived.Test.YtofmmdfdiaahhaaGreatDoorLwOpsLessq
namespace Go.Proofs.YtofmmdfdiaahhaaGreatDoor.opsLess
open Go.ChangeShapes Go.WideShapes Go.ChangeAt Go.WideMaps Go.WideElems Go.RowKit
set_option linter.unusedVariables false

theorem own : ownKnob Tryz.prog.godebug = none := by kernel_rfl

theorem gLen : Tryz.prog.globalNamed "computus/civil.lengths" = some 1 := by kernel_rfl
theorem tLen : (Tryz.prog.globals[1]?).map (·.type) = some 152 := by kernel_rfl
theorem uLen : Tryz.prog.underlying 152 = some (.array 12 2) := by kernel_rfl
theorem gOps : Tryz.prog.globalNamed "computus/ops.lengths" = some 0 := by kernel_rfl
theorem tOps : (Tryz.prog.globals[0]?).map (·.type) = some 95 := by kernel_rfl
theorem uOps : Tryz.prog.underlying 95 = some (.array 6 2) := by kernel_rfl
/-- what the listed variables give the walks: the lengths of months and of fields. -/
theorem of_laid {W : World} (h : laidMetH Tryz.prog Rows.opsLessRow.laid W) : LO W := by
  rw [MakeChecks.laidMetH_plain _ _ _ (by kernel_rfl)] at h
  have ht := Lib.tabIs_of_head (k := .i64) (zs := Cvl.tabL) (rest := _) gLen tLen uLen Tryz.underlying2 (by kernel_rfl) (by kernel_rfl) h
  have ho := Lib.tabIs_of_head (k := .i64) (zs := opTab) gOps tOps uOps Tryz.underlying2 (by kernel_rfl) (by kernel_rfl) h.tail.tail.tail.tail
  exact ⟨fun i hi => ht.cell gLen i hi, fun i hi => ho.cell gOps i hi⟩

theorem door_met (os : Os) (args : Array Value) : laidMetH Tryz.prog Rows.opsLessRow.laid (((World.doorLaid Tryz.prog 400 os)).forCall (fun _ _ => 0) ⟨#[], args, []⟩).memory :=
  laidMetH_of_parts3 (fuel := 8) (laidMet_of_run' 8 (by kernel_rfl) (by kernel_rfl)) (by kernel_rfl) (by kernel_rfl)

theorem is_le {n y m d n' y' m' d' : Int} (h : Cv.Is n y m d) (g : Cv.Is n' y' m' d') (hl : y' < y ∨ (y' = y ∧ (m' < m ∨ (m' = m ∧ d' ≤ d)))) : n' ≤ n := by
  have a := Cv.is_year h
  have b := Cv.is_year g
  rcases hl with hl | ⟨rfl, hl⟩
  · have := Cv.S_mono (show y' + 1 ≤ y by omega)
    omega
  · obtain ⟨h1, h2, h3, h4, h5⟩ := h
    obtain ⟨g1, g2, g3, g4, g5⟩ := g
    rcases hl with hl | ⟨rfl, hl⟩
    · have e := Cv.cum_succ y' m' g1 g2
      have := Cv.cum_mono (y := y') (a := m' + 1) (b := m) (by omega) (by omega) (by omega)
      omega
    · omega
theorem first_le {f d y m q : Int} (f1 : 6 ≤ f) (hq : Cv.Is d y m q) : fdN f d y m ≤ d := by
  unfold fdN
  split
  · omega
  · obtain ⟨a1, a2, a3⟩ := fm_bd f m hq.1 hq.2.1
    have b := fy_bd f y
    refine is_le hq (is_first (fyN f y) (fmN f m) a1 a2) ?_
    have := hq.2.2.1
    by_cases e : fyN f y = y
    · refine .inr ⟨e, ?_⟩
      by_cases e2 : fmN f m = m
      · exact .inr ⟨e2, this⟩
      · exact .inl (by omega)
    · exact .inl (by omega)
theorem first_again {f d y m q y2 m2 q2 : Int} (f1 : 6 ≤ f) (f2 : f ≤ 12) (hq : Cv.Is d y m q) (hn : Cv.Is (fdN f d y m) y2 m2 q2) : fdN f (fdN f d y m) y2 m2 = fdN f d y m := by
  by_cases h6 : f = 6
  · subst h6
    unfold fdN
    rw [if_pos rfl, if_pos rfl]
    omega
  · obtain ⟨a1, a2, a3⟩ := fm_bd f m hq.1 hq.2.1
    have hF := is_first (fyN f y) (fmN f m) a1 a2
    have e : fdN f d y m = Cv.S (fyN f y) + Cv.cum (fyN f y) (fmN f m) := by unfold fdN; rw [if_neg h6]
    rw [e] at hn
    obtain ⟨e1, e2, _⟩ := Cv.is_one hn hF
    have g1 : fyN f (fyN f y) = fyN f y := by unfold fyN; repeat' split
                                              all_goals omega
    have g2 : fmN f (fmN f m) = fmN f m := by unfold fmN; repeat' split
                                              all_goals omega
    rw [e]
    unfold fdN
    rw [if_neg h6, e1, e2, g1, g2]
theorem tab_bd {f : Int} (f1 : 0 ≤ f) (f2 : f ≤ 5) : ∃ L, opTab.getD f.toNat 1 = L ∧ 0 < L ∧ ∃ c, L * c = 86400000000 ∧ 0 < c := by
  obtain rfl | rfl | rfl | rfl | rfl | rfl : f = 0 ∨ f = 1 ∨ f = 2 ∨ f = 3 ∨ f = 4 ∨ f = 5 := by omega
  · exact ⟨1, rfl, by decide, 86400000000, by decide, by decide⟩
  · exact ⟨1000, rfl, by decide, 86400000, by decide, by decide⟩
  · exact ⟨1000000, rfl, by decide, 86400, by decide, by decide⟩
  · exact ⟨60000000, rfl, by decide, 1440, by decide, by decide⟩
  · exact ⟨3600000000, rfl, by decide, 24, by decide, by decide⟩
  · exact ⟨86400000000, rfl, by decide, 1, by decide, by decide⟩
/-- what is cut begins a length of time, is not behind, and is of a day that can be. -/
theorem cut_is {f u y m q : Int} (f1 : 0 ≤ f) (f2 : f ≤ 12) (hq : Cv.Is (u / 86400000000) y m q) (hd : Dy.dok (u / 86400000000) = true) (he : bgE f u y m = 0) :
    bgV f u y m ≤ u ∧ Dy.dok (bgV f u y m / 86400000000) = true ∧ ∀ y2 m2 q2, Cv.Is (bgV f u y m / 86400000000) y2 m2 q2 → bgV f (bgV f u y m) y2 m2 = bgV f u y m ∧ bgE f (bgV f u y m) y2 m2 = 0 := by
  have kd := Dy.dok_yes hd
  by_cases h5 : f ≤ 5
  · have ev : ∀ u y m, bgV f u y m = u - u % opTab.getD f.toNat 1 := fun u y m => by unfold bgV; rw [if_pos h5]
    have ee : ∀ u y m, bgE f u y m = 0 := fun u y m => by unfold bgE; rw [if_pos h5]
    rw [ev]
    obtain rfl | rfl | rfl | rfl | rfl | rfl : f = 0 ∨ f = 1 ∨ f = 2 ∨ f = 3 ∨ f = 4 ∨ f = 5 := by omega
    all_goals
      simp only [show opTab.getD (Int.toNat 0) 1 = 1 from rfl, show opTab.getD (Int.toNat 1) 1 = 1000 from rfl, show opTab.getD (Int.toNat 2) 1 = 1000000 from rfl, show opTab.getD (Int.toNat 3) 1 = 60000000 from rfl, show opTab.getD (Int.toNat 4) 1 = 3600000000 from rfl, show opTab.getD (Int.toNat 5) 1 = 86400000000 from rfl] at ev ⊢
      refine ⟨by omega, ?_, fun y2 m2 q2 _ => ⟨by rw [ev]; omega, ee _ _ _⟩⟩
    · rw [show (u - u % 1) / 86400000000 = u / 86400000000 by omega]; exact hd
    · rw [show (u - u % 1000) / 86400000000 = u / 86400000000 by omega]; exact hd
    · rw [show (u - u % 1000000) / 86400000000 = u / 86400000000 by omega]; exact hd
    · rw [show (u - u % 60000000) / 86400000000 = u / 86400000000 by omega]; exact hd
    · rw [show (u - u % 3600000000) / 86400000000 = u / 86400000000 by omega]; exact hd
    · rw [show (u - u % 86400000000) / 86400000000 = u / 86400000000 by omega]; exact hd
  · have hn : Dy.dok (fdN f (u / 86400000000) y m) = true := by
      unfold bgE at he
      rw [if_neg h5] at he
      by_cases h : Dy.dok (fdN f (u / 86400000000) y m) = true
      · exact h
      · rw [if_neg h] at he; omega
    have ev : bgV f u y m = fdN f (u / 86400000000) y m * 86400000000 := by unfold bgV; rw [if_neg h5, if_pos hn]
    have hl := first_le (f := f) (by omega) hq
    have ed : bgV f u y m / 86400000000 = fdN f (u / 86400000000) y m := by rw [ev]; omega
    refine ⟨by rw [ev]; omega, by rw [ed]; exact hn, fun y2 m2 q2 h2 => ?_⟩
    rw [ed] at h2
    have ha := first_again (f := f) (by omega) f2 hq h2
    unfold bgV bgE
    rw [if_neg h5, if_neg h5, if_neg h5]
    rw [if_pos hn]
    rw [show fdN f (u / 86400000000) y m * 86400000000 / 86400000000 = fdN f (u / 86400000000) y m by omega, ha, if_pos hn, if_pos hn]
    exact ⟨rfl, rfl⟩
theorem sp_le {a b : Int} (ha : Dy.sR 0 a = true) (hb : Dy.sR 0 b = true) (h : a ≤ b) : Dy.spV 0 a 0 b ≤ 0 := by
  unfold Dy.spV
  rw [if_pos ⟨ha, hb⟩]
  rcases Int.lt_or_eq_of_le h with h | h
  · rw [Dy.ord_2 h]; decide
  · rw [h, Dy.ord_5]; decide

theorem walk (s : ByteArray) (ws : s.size ≤ maxLen) (i u : Int) (wi : (Lit.int .i64 i).wf = true) (wu : (Lit.int .i64 u).wf = true) (w : World) (hL : LO w) :
    Calls Tryz.prog 4 #[.string s, .agg #[.int .i64 i, .int .i64 u]] w fun r w' => r = .returned (.bool true) ∧ Below w.heap.size w w' := by
  obtain ⟨u1, u2⟩ := bounds_i64 wu
  have KN : ∀ w : World, LO w → _ := fun w hw => known_any w hw
  obtain ⟨a, v, e, h⟩ := trunc_is s i u
  have T1 : ∀ w : World, LO w → _ := fun w hw => trunc_any s ws i u a v e h u1 u2 w hw.1 hw.2
  have hY : fldN ⟨#[121, 101, 97, 114]⟩ 13 = 9 := by decide +kernel
  have hM : fldN ⟨#[109, 111, 110, 116, 104]⟩ 13 = 7 := by decide +kernel
  have hD : fldN ⟨#[100, 97, 121]⟩ 13 = 5 := by decide +kernel
  by_cases he : e = 0
  · subst he
    rcases h with h | h | ⟨hr, hk, hi, rfl, rfl, _⟩ | ⟨hr, hk, hk2, rfl, rfl, y, m, q, hq, rfl, hz⟩
    · omega
    · omega
    · have C := fun w => Dy.rscmp_any a v a v u1 u2 u1 u2 w
      rw [show Dy.spV a v a v = 0 by unfold Dy.spV; rw [if_pos ⟨hr, hr⟩, Dy.ord_5]] at C
      have TT : ∀ (t : ByteArray) (ht : t.size ≤ maxLen) (k : Int) (hk : fldN t 13 = k) (k0 : 0 ≤ k) (w : World) (hw : LO w), _ := fun t ht k hk k0 w hw => trunc_any t ht a v a v 0 (by rw [hk]; exact .inr (.inr (.inl ⟨hr, k0, hi, rfl, rfl, rfl⟩))) u1 u2 w hw.1 hw.2
      exact less_ok s a v a v a v a v a v 0 0 0 (by decide) (by decide) (by decide) T1 T1 C (TT _ (by decide) 9 hY (by decide)) (TT _ (by decide) 7 hM (by decide)) (TT _ (by decide) 5 hD (by decide)) C C KN w (LO.of hL)
    · have hd : Dy.dok (u / 86400000000) = true := hr
      obtain ⟨c1, c2, c3⟩ := cut_is hk hk2 hq hd hz.symm
      have kv := Dy.dok_yes c2
      obtain ⟨y2, m2, q2, hq2⟩ := Cv.is_date (bgV (fldN s 13) u y m / 86400000000)
      obtain ⟨d1, d2⟩ := c3 y2 m2 q2 hq2
      have T2 : ∀ w : World, LO w → _ := fun w hw => trunc_any s ws 0 (bgV (fldN s 13) u y m) 0 (bgV (fldN s 13) u y m) 0 (.inr (.inr (.inr ⟨c2, hk, hk2, rfl, rfl, y2, m2, q2, hq2, d1.symm, d2.symm⟩))) (by omega) (by omega) w hw.1 hw.2
      have C1 := fun w => Dy.rscmp_any 0 (bgV (fldN s 13) u y m) 0 u (by omega) (by omega) u1 u2 w
      have yb := year_bd hq hd
      have TT : ∀ (t : ByteArray) (ht : t.size ≤ maxLen) (k : Int) (hk : fldN t 13 = k) (k0 : 0 ≤ k) (k1 : k ≤ 12) (hz : bgE k u y m = 0) (w : World) (hw : LO w), _ := fun t ht k hk k0 k1 hz w hw => trunc_any t ht 0 u 0 (bgV k u y m) 0 (by rw [hk]; exact .inr (.inr (.inr ⟨hr, k0, k1, rfl, rfl, y, m, q, hq, rfl, hz.symm⟩))) u1 u2 w hw.1 hw.2
      have dY : Dy.dok (fdN 9 (u / 86400000000) y m) = true := by
        have hF := is_first y 1 (by decide) (by decide)
        rw [show fdN 9 (u / 86400000000) y m = Cv.S y + Cv.cum y 1 from rfl, Dy.dok_year hF]
        exact decide_eq_true yb
      have dM : Dy.dok (fdN 7 (u / 86400000000) y m) = true := by
        have hF := is_first y m hq.1 hq.2.1
        rw [show fdN 7 (u / 86400000000) y m = Cv.S y + Cv.cum y m from rfl, Dy.dok_year hF]
        exact decide_eq_true yb
      have zY : bgE 9 u y m = 0 := by unfold bgE; rw [if_neg (by decide), if_pos dY]
      have zM : bgE 7 u y m = 0 := by unfold bgE; rw [if_neg (by decide), if_pos dM]
      have zD : bgE 5 u y m = 0 := by unfold bgE; rw [if_pos (by decide)]
      have vY : bgV 9 u y m = fdN 9 (u / 86400000000) y m * 86400000000 := by unfold bgV; rw [if_neg (by decide), if_pos dY]
      have vM : bgV 7 u y m = fdN 7 (u / 86400000000) y m * 86400000000 := by unfold bgV; rw [if_neg (by decide), if_pos dM]
      have vD : bgV 5 u y m = u - u % 86400000000 := by unfold bgV; rw [if_pos (by decide)]; rfl
      have sY := cut_is (f := 9) (by decide) (by decide) hq hd zY
      have sM := cut_is (f := 7) (by decide) (by decide) hq hd zM
      have sD := cut_is (f := 5) (by decide) (by decide) hq hd zD
      have bY := Dy.dok_yes sY.2.1
      have bM := Dy.dok_yes sM.2.1
      have bD := Dy.dok_yes sD.2.1
      have lYM : bgV 9 u y m ≤ bgV 7 u y m := by
        rw [vY, vM, show fdN 9 (u / 86400000000) y m = Cv.S y + Cv.cum y 1 from rfl, show fdN 7 (u / 86400000000) y m = Cv.S y + Cv.cum y m from rfl, Cv.cum_one]
        have := (Cv.cum_bd y m).1
        omega
      have lMD : bgV 7 u y m ≤ bgV 5 u y m := by
        rw [vM, vD]
        have := first_le (f := 7) (by decide) hq
        omega
      have n1 := sp_le (a := bgV (fldN s 13) u y m) (b := u) c2 hr c1
      have n2 := sp_le (a := bgV 9 u y m) (b := bgV 7 u y m) sY.2.1 sM.2.1 lYM
      have n3 := sp_le (a := bgV 7 u y m) (b := bgV 5 u y m) sM.2.1 sD.2.1 lMD
      exact less_ok s 0 u 0 _ 0 _ 0 _ 0 _ _ _ _ (by omega) n2 n3 T1 T2 C1 (TT _ (by decide) 9 hY (by decide) (by decide) zY) (TT _ (by decide) 7 hM (by decide) (by decide) zM) (TT _ (by decide) 5 hD (by decide) (by decide) zD)
        (fun w => Dy.rscmp_any 0 _ 0 _ (by omega) (by omega) (by omega) (by omega) w) (fun w => Dy.rscmp_any 0 _ 0 _ (by omega) (by omega) (by omega) (by omega) w) KN w (LO.of hL)
  · exact less_e s i u a v e he T1 KN w (LO.of hL)

set_option maxRecDepth 100000 in
theorem lifted (os : Os) (started : os.Started) (H : Type) (enc : TypeId × Value → H) :
    ReturnsInHanded {} Tryz.checked os 4 .any (fun w args => (Rows.opsLessSpec.pre enc Tryz.prog Tryz.f4 [] false w args ∧ laidMetH Tryz.prog Rows.opsLessRow.laid w) ∧ sizedMet enc Tryz.prog Tryz.f4 (OpenSpec.ofChange Rows.opsLessSpec) false w args)
      (Rows.opsLessSpec.post enc Tryz.prog Tryz.f4 false true false false) := by
  refine returnsInHanded_of_change_and (C := Tryz.checked) (X := fun w _ => laidMetH Tryz.prog Rows.opsLessRow.laid w) (fun _ _ _ hh h => h.of_heap hh) own started (by kernel_rfl) Tryz.func4
    (ChangeSpec.witness_shaped (enc := enc) (C := Tryz.checked) (os := os) (X := fun w _ => laidMetH Tryz.prog Rows.opsLessRow.laid w) false (World.doorLaid Tryz.prog 400 os) #[.string ⟨#[]⟩, .agg #[.int .i64 0, .int .i64 0]] 8 rfl (World.shaped_of_RefB (by kernel_rfl) (by kernel_rfl)) (by kernel_rfl) (by kernel_rfl) (by kernel_rfl) (door_met os _)) ?_
  intro W base args ds gs before hval0 hW _ _ hL _
  have hval : ∀ (j : Nat) t v, Tryz.f4.params[j]? = some t → args[j]? = some v → Value.okWide Tryz.prog W .any base t v := hval0
  have hW' := hW
  obtain ⟨p, q, hA0, hV, rfl, hfz, hnd⟩ := hW
  have hA : DataW.TrodAll enc Tryz.prog W 0 (fun _ => true) true Tryz.f4.params.toList args.toList ds p := hA0
  rw [Tryz.params4] at hA hval
  obtain ⟨v0, vs0, d0, ds0, p0, q0, ha0, rfl, rfl, h0, r0⟩ := trodAll_cons hA
  obtain ⟨v1, vs1, d1, ds1, p1, q1, ha1, rfl, rfl, h1, r1⟩ := trodAll_cons r0
  obtain ⟨rfl, rfl, rfl⟩ := trodAll_nil r1
  subst ha1
  obtain rfl : args = #[v0, v1] := by cases args; simp_all
  obtain ⟨rfl, rfl⟩ := trodVars_none hV
  obtain ⟨a0, rfl, rfl, rfl, w0⟩ := Go.ChangeMaps.open_string Tryz.underlying9 (hval 0 9 v0 rfl rfl) h0
  obtain ⟨c1_0, c1_1, y1_0, y1_1, m1, rfl, rfl, rfl, hy1_0, hy1_1⟩ := Joins.open_agg2 Tryz.underlying23 (by kernel_rfl) (show Tryz.prog.cellsOf 23 = 2 by kernel_rfl) (hval 1 23 v1 rfl rfl) h1
  obtain ⟨n1_0, i1_0, rfl, wn1_0⟩ := DataW.trod_int Tryz.underlying3 hy1_0
  simp at i1_0
  subst i1_0
  obtain ⟨n1_1, i1_1, rfl, wn1_1⟩ := DataW.trod_int Tryz.underlying2 hy1_1
  simp at i1_1
  subst i1_1
  clear hA0 hval0
  simp only [List.append_nil] at hW'
  refine (walk a0 w0 n1_0 n1_1 wn1_0 wn1_1 W (of_laid hL)).mono fun e W' ⟨he, hg⟩ => ?_
  subst he
  exact ⟨_, rfl, _, _, _, [], [], [], hW', (trodAll_cons_mk (shut_bool Tryz.underlying4 _) trodAll_mk0), (trodAll_cons_mk (Go.ChangeMaps.shut_string Tryz.underlying9 w0) (trodAll_cons_mk ((Joins.shut_agg2 (y0 := (.lit (.int .i64 n1_0), [])) (y1 := (.lit (.int .i64 n1_1), [])) Tryz.underlying23 (by kernel_rfl) (show Tryz.prog.cellsOf 23 = 2 by kernel_rfl) ⟨1, by simp [DataW.trod, Tryz.underlying3, wn1_0]⟩ ⟨1, by simp [DataW.trod, Tryz.underlying2, wn1_1]⟩)) trodAll_mk0)), rfl, hg.frame _, fun h => by cases h⟩

theorem over : Rows.opsLessRow.holds Tryz.pinned (OpenSpec.ofChange Rows.opsLessSpec) :=
  OpenClaim.holds_of_wide 4 Tryz.f4 rfl rfl rfl rfl rfl rfl rfl ⟨rfl, rfl, rfl, rfl, rfl⟩ rfl rfl rfl rfl rfl (by kernel_rfl) Tryz.func4 (by kernel_rfl)
    (of_decide_eq_true (by kernel_rfl)) (by unfold Func.isWrapper; first | (rw [if_pos (by decide +kernel)]; kernel_rfl) | (rw [if_neg (by decide +kernel)]; exact ⟨rfl, rfl⟩))
    (fun os started H enc _ => lifted os started H enc)

theorem proved : Rows.OpsLessCardSaid :=
  Claim7.holds_tied_plain_at .later [] [.data, .data, .data, .data, .data] true (true, "1288aef8317a012f5a7b0e0b1f0b325ad2df71ac88b0c2102696b3cf94a1a272") true
    over (fun _ h => by cases h) (by kernel_rfl) (fun _ h => by cases h) opsLess_row_tie rfl ⟨rfl, rfl⟩ (by kernel_rfl) rfl
    (fun f fn hf hfn => by
      obtain rfl : f = 4 := Option.some.inj ((show Tryz.prog.funcNamed Rows.opsLessRow.func = some 4 by kernel_rfl).symm.trans hf) |>.symm
      obtain rfl : fn = Tryz.f4 := (Option.some.inj (Tryz.func4.symm.trans hfn)).symm
      exact ⟨by kernel_rfl, fun j t ht => by
        rw [Tryz.params4] at ht
        have hm : t ∈ [9, 23] := by simpa using Array.mem_of_getElem? ht
        have hall : ([9, 23].all fun u => !Tryz.prog.wantsStandIn u) = true := by kernel_rfl
        exact (show Tryz.prog.wantsStandIn t = false by simpa using List.all_eq_true.1 hall t hm)⟩)
    (by kernel_rfl)
end Go.Proofs.YtofmmdfdiaahhaaGreatDoor.opsLess
