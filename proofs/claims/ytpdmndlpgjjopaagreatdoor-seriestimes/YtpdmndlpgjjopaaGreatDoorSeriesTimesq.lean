/- Without months, and by UTC, the k-th one of a series is the first one and k times the step: SeriesTimes returns true for every two stamps, every two int64s and every int. -/
import Derived.Test.YtpdmndlpgjjopaaGreatDoorRows
import Derived.Test.YtpdmndlpgjjopaaGreatDoorCards
import Derived.Test.YtpdmndlpgjjopaaGreatDoorTie
import Derived.WalkKit
import Derived.ProofKit
import Derived.LaidMore
import Derived.OpenShut
import Derived.ShutString
import Derived.Stop.Joined
import Derived.Lib.LaidTab
import Derived.Lib.SmallJoins
import Derived.Stop.LaidErr
import Derived.Lay
import Derived.SevenTiedAt
import Derived.ChangeMaps5
import Derived.SizedLaws
import Derived.Lib.LaidU8T
import Derived.Shelf.Vars
import Derived.Test.YtpdmndlpgjjopaaGreatDoorLwSeriesTimesq
namespace Go.Proofs.YtpdmndlpgjjopaaGreatDoor.seriesTimes
open Go.ChangeShapes Go.WideShapes Go.ChangeAt Go.WideMaps Go.WideElems Go.RowKit
set_option linter.unusedVariables false

theorem own : ownKnob Tryz.prog.godebug = none := by kernel_rfl

theorem gLen : Tryz.prog.globalNamed "computus/civil.lengths" = some 0 := by kernel_rfl
theorem tLen : (Tryz.prog.globals[0]?).map (·.type) = some 163 := by kernel_rfl
theorem uLen : Tryz.prog.underlying 163 = some (.array 12 2) := by kernel_rfl
/-- what the listed variable gives the walks: the twelve lengths. -/
theorem of_laid {W : World} (h : laidMetH Tryz.prog Rows.seriesTimesRow.laid W) : Cvl.Lens W := by
  rw [MakeChecks.laidMetH_plain _ _ _ (by kernel_rfl)] at h
  have ht := Lib.tabIs_of_head (k := .i64) (zs := Cvl.tabL) (rest := _) gLen tLen uLen Tryz.underlying2 (by kernel_rfl) (by kernel_rfl) h
  exact fun i hi => ht.cell gLen i hi

theorem door_met (os : Os) (args : Array Value) : laidMetH Tryz.prog Rows.seriesTimesRow.laid (((World.doorLaid Tryz.prog 400 os)).forCall (fun _ _ => 0) ⟨#[], args, []⟩).memory :=
  laidMetH_of_parts3 (fuel := 8) (laidMet_of_run' 8 (by kernel_rfl) (by kernel_rfl)) (by kernel_rfl) (by kernel_rfl)

theorem walk (i a : Int) (wi : (Lit.int .i64 i).wf = true) (wa : (Lit.int .i64 a).wf = true) (j b : Int) (wj : (Lit.int .i64 j).wf = true) (wb : (Lit.int .i64 b).wf = true) (d : Int) (wd : (Lit.int .i64 d).wf = true) (u : Int) (wu : (Lit.int .i64 u).wf = true) (m : Int) (wm : (Lit.int .i64 m).wf = true) (w : World) (hL : Cvl.Lens w) :
    Calls Tryz.prog 4 #[.agg #[.int .i64 i, .int .i64 a], .agg #[.int .i64 j, .int .i64 b], .int .i64 d, .int .i64 u, .int .i64 m] w fun r w' => r = .returned (.bool true) ∧ Below w.heap.size w w' := by
  obtain ⟨a1, a2⟩ := bounds_i64 wa
  obtain ⟨b1, b2⟩ := bounds_i64 wb
  have KN := fun w (hw : Cvl.Lens w) => known21_any w hw
  have UT := fun w => utc17_any w
  have D1 : -100000 < d.tmod 100000 ∧ d.tmod 100000 < 100000 := ⟨Int.lt_tmod_of_pos _ (by decide), Int.tmod_lt_of_pos _ (by decide)⟩
  have U1 : -86400000000000 < u.tmod 86400000000000 ∧ u.tmod 86400000000000 < 86400000000000 := ⟨Int.lt_tmod_of_pos _ (by decide), Int.tmod_lt_of_pos _ (by decide)⟩
  obtain ⟨D, hD⟩ : ∃ D, d.tmod 100000 = D := ⟨_, rfl⟩
  obtain ⟨U, hU⟩ : ∃ U, u.tmod 86400000000000 = U := ⟨_, rfl⟩
  rw [hD] at D1
  rw [hU] at U1
  have hp : Sp.pR 0 0 D U = true := pR_of (by omega)
  have fin : ∀ E : Int, E ≠ 0 → (∀ w : World, Cvl.Lens w → Calls Tryz.prog 6 #[.agg utL.toArray, .agg #[.int .i64 i, .int .i64 a], .agg #[.int .i64 j, .int .i64 b], .agg #[.int .i64 0, .int .i64 0, .int .i64 D, .int .i64 U], .int .i64 m] w fun r' w' => r' = .returned (.tuple #[.slice none 0 0, .int .i64 E]) ∧ Below w.heap.size w w') → (∀ w : World, Cvl.Lens w → Calls Tryz.prog 12 #[.agg #[.int .i64 i, .int .i64 a], .agg #[.int .i64 j, .int .i64 b], .agg #[.int .i64 0, .int .i64 0, .int .i64 D, .int .i64 U], .int .i64 m] w fun r' w' => r' = .returned (.tuple #[.slice none 0 0, .int .i64 E]) ∧ Below w.heap.size w w') → Calls Tryz.prog 4 #[.agg #[.int .i64 i, .int .i64 a], .agg #[.int .i64 j, .int .i64 b], .int .i64 d, .int .i64 u, .int .i64 m] w fun r w' => r = .returned (.bool true) ∧ Below w.heap.size w w' := fun E hE h1 h2 =>
    st_no i a j b d u m D U E [] hE hD hU UT (fun w hw => (h1 w hw).mono fun r W h => ⟨_, h.1, h.2, none, 0, rfl, fun j x h => by simp at h⟩) (fun w hw => (h2 w hw).mono fun r W h => ⟨_, h.1, h.2, none, 0, rfl, fun j x h => by simp at h⟩) KN w (Dy.lens_of hL)
  have ok : ∀ w : World, Cvl.Lens w → Hid (∀ W : World, Below w.heap.size w W → OkU W) := fun w hw W hb => (okU_of hw).below hb
  have RT := fun w (hw : OkU w) => nright nmU fU (.slice none 0 0) [] noU w hw.1
  have MO : ∀ c, mostB m = c → ∀ w : World, _ := fun c hc w => by have h := most_any m w; rw [hc] at h; exact h
  have R1 : ∀ c, Dy.sR i a = c → ∀ w : World, Cvl.Lens w → _ := fun c hc w hw => by have h := Dy.rst_any i a a1 a2 w hw; rw [hc] at h; exact h
  have R2 : ∀ c, Dy.sR j b = c → ∀ w : World, Cvl.Lens w → _ := fun c hc w hw => by have h := Dy.rst_any j b b1 b2 w hw; rw [hc] at h; exact h
  have R3 := fun w => pr_yes hp w
  cases hm : mostB m
  · exact fin 1 (by decide) (fun w hw => tz_no0 OkU _ utL_len i a j b 0 0 D U m (MO _ hm) w (ok w hw)) (fun w hw => sts_no0 i a j b 0 0 D U m (MO _ hm) w (Dy.lens_of hw))
  have hm2 : 0 ≤ m ∧ m ≤ 1000 := by unfold mostB at hm; simpa using hm
  cases h1 : Dy.sR i a
  · exact fin 1 (by decide) (fun w hw => tz_no2 OkU _ utL_len i a j b 0 0 D U m (MO _ hm) RT (fun w hw => R1 _ h1 w hw.2) w (ok w hw)) (fun w hw => sts_no1 i a j b 0 0 D U m (MO _ hm) (R1 _ h1) w (Dy.lens_of hw))
  cases h2 : Dy.sR j b
  · exact fin 1 (by decide) (fun w hw => tz_no3 OkU _ utL_len i a j b 0 0 D U m (MO _ hm) RT (fun w hw => R1 _ h1 w hw.2) (fun w hw => R2 _ h2 w hw.2) w (ok w hw)) (fun w hw => sts_no2 i a j b 0 0 D U m (MO _ hm) (R1 _ h1) (R2 _ h2) w (Dy.lens_of hw))
  have nl : ∀ (E : Int) (w : World) (r : Ending) (W : World), r = .returned (.tuple #[.slice none 0 0, .int .i64 E]) ∧ Below w.heap.size w W → ∃ v, r = .returned (.tuple #[v, .int .i64 E]) ∧ Below w.heap.size w W ∧ W.ownsRow w.heap.size 36 2 v 0 [] := fun E w r W h => ⟨_, h.1, h.2, World.ownsRow_nil _ _ _ _⟩
  have ln : ∀ (E : Int) (w : World) (r : Ending) (W : World), (∃ v, r = .returned (.tuple #[v, .int .i64 E]) ∧ Below w.heap.size w W ∧ W.ownsRow w.heap.size 36 2 v 0 []) → ∃ v, r = .returned (.tuple #[v, .int .i64 E]) ∧ Below w.heap.size w W ∧ TRow W v [] := fun E w r W ⟨v, h, hb, ho⟩ => ⟨v, h, hb, TRow.of_own (L := []) ho⟩
  by_cases hi : i = 0
  · subst hi
    have hu : Dy.dok (a / 86400000000) = true := h1
    by_cases hs : Sp.sgA 0 0 D U = 0
    · have SG := fun w => Sp.psign_any 0 0 D U (by omega) (by omega) w
      rw [hs] at SG
      refine st_no 0 a j b d u m D U 11 [] (by decide) hD hU UT (fun w hw => (tz_run OkU _ utL_len 0 a j b 0 0 D U m 11 0 [] (MO _ hm) RT (fun w hw => R1 _ h1 w hw.2) (fun w hw => R2 _ h2 w hw.2) R3 (fun w hw => (fol_zero _ _ a j b 0 D U m SG w).mono (nl 11 w)) w (ok w hw)).mono (ln 11 w)) (fun w hw => (sts_run 0 a j b 0 0 D U m 11 0 [] (MO _ hm) (R1 _ h1) (R2 _ h2) R3 (fun w hw => (fol_zero _ _ a j b 0 D U m SG w).mono (nl 11 w)) w (Dy.lens_of hw)).mono (ln 11 w)) KN w (Dy.lens_of hL)
    · have hmm : m = (m.toNat : Int) := by omega
      have TZ := fun w (hw : Cvl.Lens w) => tz_fol OkU (fun W V h hb => h.below hb) (fun W h => h.2) utL utL_len RT a j b 0 D U _ m.toNat (nz D U) (fun x => Dy.dok (x / 86400000000) = true) (by omega) (fun x h => h) hu h2 b1 b2 hp rfl hs (fun x hx _ w hw => utc_add D U x hx hp w hw) (fun x hx _ he => (nz_ok he).1) w (okU_of hw)
      have TS := fun w (hw : Cvl.Lens w) => stamps_fol a j b 0 D U _ m.toNat (nz D U) (fun x => Dy.dok (x / 86400000000) = true) (by omega) (fun x h => h) hu h2 b1 b2 hp rfl hs (fun x hx _ => nz_add hx hp) (fun x hx _ he => (nz_ok he).1) w hw
      rw [← hmm] at TZ TS
      have FA := fol_ar (D := D) (U := U) (bey := beyS j b (Sp.sgA 0 0 D U)) (ld := leadS (Sp.sgA 0 0 D U)) m.toNat a none []
      generalize folF (nz D U) (beyS j b (Sp.sgA 0 0 D U)) (leadS (Sp.sgA 0 0 D U)) m.toNat a none [] = FF at *
      obtain ⟨L, E⟩ := FF
      have TZ2 := fun w hw => (TZ w hw).mono fun (r : Ending) (W : World) ⟨v, h, hb, ho⟩ => (⟨v, h, hb, TRow.of_own ho⟩ : ∃ v, r = Ending.returned (.tuple #[v, .int .i64 E]) ∧ Below w.heap.size w W ∧ TRow W v L)
      have TS2 := fun w hw => (TS w hw).mono fun (r : Ending) (W : World) ⟨v, h, hb, ho⟩ => (⟨v, h, hb, TRow.of_own ho⟩ : ∃ v, r = Ending.returned (.tuple #[v, .int .i64 E]) ∧ Below w.heap.size w W ∧ TRow W v L)
      by_cases hE : E = 0
      · subst hE
        obtain ⟨n, hn, e, hvv⟩ := FA L hu rfl
        rw [List.nil_append] at e
        refine st_ok 0 a j b d u m D U (D * 86400000000 + U) L (by rw [e, arI_len]; omega) (by rw [IntKind.wrap_i64]; omega) (by rw [IntKind.wrap_i64]; omega) (fun k x hk => ?_) hD hU UT TZ2 TS2 KN w (Dy.lens_of hL)
        rw [e] at hk
        have hk2 : k < n := by have := (List.getElem?_eq_some_iff.1 hk).1; rwa [arI_len] at this
        rw [arI_get hk2] at hk
        have hx : a + (k : Int) * (D * 86400000000 + U) = x := by simpa using hk
        refine ⟨_, rfl, ?_⟩
        have hv : -9223372036854775808 ≤ x ∧ x ≤ 9223372036854775807 := by have := hvv k hk2; rw [hx] at this; exact dok_bd this
        rw [← hx]
        have q : IntKind.i64.wrap (a + IntKind.i64.wrap ((k : Int) * (D * 86400000000 + U))) = IntKind.i64.wrap (a + (k : Int) * (D * 86400000000 + U)) := by
          generalize (k : Int) * (D * 86400000000 + U) = z
          rw [IntKind.wrap_i64, IntKind.wrap_i64, IntKind.wrap_i64]
          omega
        rw [q, IntKind.wrap_i64]
        omega
      · exact st_no 0 a j b d u m D U E L hE hD hU UT TZ2 TS2 KN w (Dy.lens_of hL)
  · refine st_no i a j b d u m D U 10 [] (by decide) hD hU UT (fun w hw => (tz_run OkU _ utL_len i a j b 0 0 D U m 10 0 [] (MO _ hm) RT (fun w hw => R1 _ h1 w hw.2) (fun w hw => R2 _ h2 w hw.2) R3 (fun w hw => (fol_inf1 _ _ i a j b 0 0 D U m hi w).mono (nl 10 w)) w (ok w hw)).mono (ln 10 w)) (fun w hw => (sts_run i a j b 0 0 D U m 10 0 [] (MO _ hm) (R1 _ h1) (R2 _ h2) R3 (fun w hw => (fol_inf1 _ _ i a j b 0 0 D U m hi w).mono (nl 10 w)) w (Dy.lens_of hw)).mono (ln 10 w)) KN w (Dy.lens_of hL)

set_option maxRecDepth 100000 in
theorem lifted (os : Os) (started : os.Started) (H : Type) (enc : TypeId × Value → H) :
    ReturnsInHanded {} Tryz.checked os 4 .any (fun w args => (Rows.seriesTimesSpec.pre enc Tryz.prog Tryz.f4 [] false w args ∧ laidMetH Tryz.prog Rows.seriesTimesRow.laid w) ∧ sizedMet enc Tryz.prog Tryz.f4 (OpenSpec.ofChange Rows.seriesTimesSpec) false w args)
      (Rows.seriesTimesSpec.post enc Tryz.prog Tryz.f4 false true false false) := by
  refine returnsInHanded_of_change_and (C := Tryz.checked) (X := fun w _ => laidMetH Tryz.prog Rows.seriesTimesRow.laid w) (fun _ _ _ hh h => h.of_heap hh) own started (by kernel_rfl) Tryz.func4
    (ChangeSpec.witness_shaped (enc := enc) (C := Tryz.checked) (os := os) (X := fun w _ => laidMetH Tryz.prog Rows.seriesTimesRow.laid w) false (World.doorLaid Tryz.prog 400 os) #[.agg #[.int .i64 0, .int .i64 0], .agg #[.int .i64 0, .int .i64 0], .int .i64 0, .int .i64 0, .int .i64 0] 8 rfl (World.shaped_of_RefB (by kernel_rfl) (by kernel_rfl)) (by kernel_rfl) (by kernel_rfl) (by kernel_rfl) (door_met os _)) ?_
  intro W base args ds gs before hval0 hW _ _ hL _
  have hval : ∀ (j : Nat) t v, Tryz.f4.params[j]? = some t → args[j]? = some v → Value.okWide Tryz.prog W .any base t v := hval0
  have hW' := hW
  obtain ⟨p, q, hA0, hV, rfl, hfz, hnd⟩ := hW
  have hA : DataW.TrodAll enc Tryz.prog W 0 (fun _ => true) true Tryz.f4.params.toList args.toList ds p := hA0
  rw [Tryz.params4] at hA hval
  obtain ⟨v0, vs0, d0, ds0, p0, q0, ha0, rfl, rfl, h0, r0⟩ := trodAll_cons hA
  obtain ⟨v1, vs1, d1, ds1, p1, q1, ha1, rfl, rfl, h1, r1⟩ := trodAll_cons r0
  obtain ⟨v2, vs2, d2, ds2, p2, q2, ha2, rfl, rfl, h2, r2⟩ := trodAll_cons r1
  obtain ⟨v3, vs3, d3, ds3, p3, q3, ha3, rfl, rfl, h3, r3⟩ := trodAll_cons r2
  obtain ⟨v4, vs4, d4, ds4, p4, q4, ha4, rfl, rfl, h4, r4⟩ := trodAll_cons r3
  obtain ⟨rfl, rfl, rfl⟩ := trodAll_nil r4
  subst ha4
  subst ha3
  subst ha2
  subst ha1
  obtain rfl : args = #[v0, v1, v2, v3, v4] := by cases args; simp_all
  obtain ⟨rfl, rfl⟩ := trodVars_none hV
  obtain ⟨c0_0, c0_1, y0_0, y0_1, m0, rfl, rfl, rfl, hy0_0, hy0_1⟩ := Joins.open_agg2 Tryz.underlying36 (by kernel_rfl) (show Tryz.prog.cellsOf 36 = 2 by kernel_rfl) (hval 0 36 v0 rfl rfl) h0
  obtain ⟨n0_0, i0_0, rfl, wn0_0⟩ := DataW.trod_int Tryz.underlying3 hy0_0
  simp at i0_0
  subst i0_0
  obtain ⟨n0_1, i0_1, rfl, wn0_1⟩ := DataW.trod_int Tryz.underlying2 hy0_1
  simp at i0_1
  subst i0_1
  obtain ⟨c1_0, c1_1, y1_0, y1_1, m1, rfl, rfl, rfl, hy1_0, hy1_1⟩ := Joins.open_agg2 Tryz.underlying36 (by kernel_rfl) (show Tryz.prog.cellsOf 36 = 2 by kernel_rfl) (hval 1 36 v1 rfl rfl) h1
  obtain ⟨n1_0, i1_0, rfl, wn1_0⟩ := DataW.trod_int Tryz.underlying3 hy1_0
  simp at i1_0
  subst i1_0
  obtain ⟨n1_1, i1_1, rfl, wn1_1⟩ := DataW.trod_int Tryz.underlying2 hy1_1
  simp at i1_1
  subst i1_1
  obtain ⟨a2, rfl, rfl, rfl, w2⟩ := open_int Tryz.underlying2 (hval 2 2 v2 rfl rfl) h2
  obtain ⟨a3, rfl, rfl, rfl, w3⟩ := open_int Tryz.underlying2 (hval 3 2 v3 rfl rfl) h3
  obtain ⟨a4, rfl, rfl, rfl, w4⟩ := open_int Tryz.underlying3 (hval 4 3 v4 rfl rfl) h4
  clear hA0 hval0
  simp only [List.append_nil] at hW'
  refine (walk n0_0 n0_1 wn0_0 wn0_1 n1_0 n1_1 wn1_0 wn1_1 a2 w2 a3 w3 a4 w4 W (of_laid hL)).mono fun e W' ⟨he, hg⟩ => ?_
  subst he
  exact ⟨_, rfl, _, _, _, [], [], [], hW', (trodAll_cons_mk (shut_bool Tryz.underlying4 _) trodAll_mk0), (trodAll_cons_mk ((Joins.shut_agg2 (y0 := (.lit (.int .i64 n0_0), [])) (y1 := (.lit (.int .i64 n0_1), [])) Tryz.underlying36 (by kernel_rfl) (show Tryz.prog.cellsOf 36 = 2 by kernel_rfl) ⟨1, by simp [DataW.trod, Tryz.underlying3, wn0_0]⟩ ⟨1, by simp [DataW.trod, Tryz.underlying2, wn0_1]⟩)) (trodAll_cons_mk ((Joins.shut_agg2 (y0 := (.lit (.int .i64 n1_0), [])) (y1 := (.lit (.int .i64 n1_1), [])) Tryz.underlying36 (by kernel_rfl) (show Tryz.prog.cellsOf 36 = 2 by kernel_rfl) ⟨1, by simp [DataW.trod, Tryz.underlying3, wn1_0]⟩ ⟨1, by simp [DataW.trod, Tryz.underlying2, wn1_1]⟩)) (trodAll_cons_mk (shut_int Tryz.underlying2 w2) (trodAll_cons_mk (shut_int Tryz.underlying2 w3) (trodAll_cons_mk (shut_int Tryz.underlying3 w4) trodAll_mk0))))), rfl, hg.frame _, fun h => by cases h⟩

theorem over : Rows.seriesTimesRow.holds Tryz.pinned (OpenSpec.ofChange Rows.seriesTimesSpec) :=
  OpenClaim.holds_of_wide 4 Tryz.f4 rfl rfl rfl rfl rfl rfl rfl ⟨rfl, rfl, rfl, rfl, rfl⟩ rfl rfl rfl rfl rfl (by kernel_rfl) Tryz.func4 (by kernel_rfl)
    (of_decide_eq_true (by kernel_rfl)) (by unfold Func.isWrapper; first | (rw [if_pos (by decide +kernel)]; kernel_rfl) | (rw [if_neg (by decide +kernel)]; exact ⟨rfl, rfl⟩))
    (fun os started H enc _ => lifted os started H enc)

theorem proved : Rows.SeriesTimesCardSaid :=
  Claim7.holds_tied_plain_at .later [] [.data, .data, .data, .data] true (true, "53005c30e8245b73823646783d8e4b517c95b96662ee1bd682bd32302c5ac2df") true
    over (fun _ h => by cases h) (by kernel_rfl) (fun _ h => by cases h) seriesTimes_row_tie rfl ⟨rfl, rfl⟩ (by kernel_rfl) rfl
    (fun f fn hf hfn => by
      obtain rfl : f = 4 := Option.some.inj ((show Tryz.prog.funcNamed Rows.seriesTimesRow.func = some 4 by kernel_rfl).symm.trans hf) |>.symm
      obtain rfl : fn = Tryz.f4 := (Option.some.inj (Tryz.func4.symm.trans hfn)).symm
      exact ⟨by kernel_rfl, fun j t ht => by
        rw [Tryz.params4] at ht
        have hm : t ∈ [36, 2, 3] := by simpa using Array.mem_of_getElem? ht
        have hall : ([36, 2, 3].all fun u => !Tryz.prog.wantsStandIn u) = true := by kernel_rfl
        exact (show Tryz.prog.wantsStandIn t = false by simpa using List.all_eq_true.1 hall t hm)⟩)
    (by kernel_rfl)
end Go.Proofs.YtpdmndlpgjjopaaGreatDoor.seriesTimes
