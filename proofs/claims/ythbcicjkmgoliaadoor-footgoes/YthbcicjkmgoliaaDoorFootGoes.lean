/- From a shift up to the next one clocks stand as the first one says, at the next one as that says: FootGoes returns true for every foot, instant and number, where the listed tables are as the program's text lays them. -/
import Derived.Test.YthbcicjkmgoliaaDoorRows
import Derived.Test.YthbcicjkmgoliaaDoorCards
import Derived.Test.YthbcicjkmgoliaaDoorTie
import Derived.WalkKit
import Derived.ProofKit
import Derived.LaidMore
import Derived.OpenShut
import Derived.ShutString
import Derived.Stop.Joined
import Derived.Lib.LaidTab
import Derived.Lib.SmallJoins
import Derived.Stop.LaidErr
import Derived.Lay
import Derived.SevenTiedAt
import Derived.ChangeMaps5
import Derived.SizedLaws
import Derived.Lib.LaidU8T
import Derived.Shelf.Vars
import Derived.Test.YthbcicjkmgoliaaDoorLwFootGoes
import Derived.Test.YthbcicjkmgoliaaDoorLwFootGoet
namespace Go.Proofs.YthbcicjkmgoliaaDoor.footGoes
open Go.ChangeShapes Go.WideShapes Go.ChangeAt Go.WideMaps Go.WideElems Go.RowKit
set_option linter.unusedVariables false

theorem own : ownKnob Tryd.prog.godebug = none := by kernel_rfl

theorem gLen : Tryd.prog.globalNamed "computus/civil.lengths" = some 0 := by kernel_rfl
theorem tLen : (Tryd.prog.globals[0]?).map (·.type) = some 107 := by kernel_rfl
theorem uLen : Tryd.prog.underlying 107 = some (.array 12 2) := by kernel_rfl
theorem gTab : Tryd.prog.globalNamed "internal/strconv.uint64pow10" = some 1 := by kernel_rfl
theorem tTab : (Tryd.prog.globals[1]?).map (·.type) = some 120 := by kernel_rfl
theorem uTab : Tryd.prog.underlying 120 = some (.array 20 112) := by kernel_rfl
/-- what the listed variables give the walks: the twelve lengths, the powers of ten. -/
theorem of_laid {W : World} (h : laidMetH Tryd.prog Rows.footGoesRow.laid W) : Cvl.Lens W ∧ Clk.Tab W := by
  rw [MakeChecks.laidMetH_plain _ _ _ (by kernel_rfl)] at h
  have ht := Lib.tabIs_of_head (k := .i64) (zs := Cvl.tabL) gLen tLen uLen Tryd.underlying2 (by kernel_rfl) (by kernel_rfl) h
  exact ⟨fun i hi => ht.cell gLen i hi, Lib.tabIs_of_head (k := .u64) (zs := Lib.pow10Tab) gTab tTab uTab Tryd.underlying112 (by kernel_rfl) (by kernel_rfl) h.tail.tail.tail⟩

theorem door_met (os : Os) (args : Array Value) : laidMetH Tryd.prog Rows.footGoesRow.laid (((World.doorLaid Tryd.prog 400 os)).forCall (fun _ _ => 0) ⟨#[], args, []⟩).memory :=
  laidMetH_of_parts3 (fuel := 8) (laidMet_of_run' 8 (by kernel_rfl) (by kernel_rfl)) (by kernel_rfl) (by kernel_rfl)

theorem gs_abs {f : Ft} (L : LH f) {j : Int} (h1 : -9434 ≤ j) (h2 : j ≤ 588563) : -100000000000000 ≤ (gs f j).t ∧ (gs f j).t ≤ 100000000000000 := by
  obtain ⟨y, hy | hy⟩ : ∃ y, j = 2 * y ∨ j = 2 * y + 1 := ⟨j / 2, by omega⟩
  all_goals
    have q : dyY y := by unfold dyY; omega
    have e := sh_is L q
    have b1 := tr_bd (y := y) L.l L.h L.o1 L.o2 q
    have b2 := tr_bd (y := y) L.h L.l L.o1 L.o2 q
    have m1 := L.m1
    have m2 := L.m2
    have ma := L.a
    have d1 := fst1_bd (y := y) (m := (lo f).m) q m1 (by omega)
    have d2 := fst1_bd (y := y) (m := (hi f).m) q (by omega) m2
    unfold fst1 at d1 d2
    subst hy
  · rw [gs_0, e.1]; omega
  · rw [gs_1, e.2]; omega

/-- how clocks stand at another instant: as j says, or out of range. -/
theorem at_again (f : Ft) (hf : okF f = true) (t j : Int) (h1 : -100000000000000 ≤ t) (h2 : t ≤ 200000000000000) (hs : St f t j) :
    (∀ w : World, Cvl.Lens w → Clk.Tab w → Calls Tryd.prog 14 #[.agg (fL f).toArray, .int .i64 t] w fun e w' => e = .returned (.tuple #[.agg (tL (gs f j)).toArray, .int .i64 0]) ∧ Below w.heap.size w w') ∨
    (∀ w : World, Cvl.Lens w → Clk.Tab w → Calls Tryd.prog 14 #[.agg (fL f).toArray, .int .i64 t] w fun e w' => e = .returned (.tuple #[.agg (tL trZ).toArray, .int .i64 10]) ∧ Below w.heap.size w w') := by
  obtain ⟨y, hy⟩ := yat_is t
  by_cases h : -4714 ≤ y ∧ y ≤ 294278
  · obtain ⟨i, hS, hA, _⟩ := stand_ok f t y hf hy h.1 h.2 (by omega) (by omega)
    obtain rfl := hS.one (lh_of hf) hs
    exact .inl hA
  · exact .inr (stand_no f t 10 (fun w hL hT => around_range f t y hf hy (by omega) (by omega) (by omega) w hL hT)).1

theorem walk (w : World) (f : Ft) (wf : wfF f) (t : Int) (wt : (Lit.int .i64 t).wf = true) (mo : Int) (wm : (Lit.int .i64 mo).wf = true) (hT : Cvl.Lens w ∧ Clk.Tab w) :
    Calls Tryd.prog 5 #[.agg #[.bool f.h, .int .i64 f.fr, .int .i64 f.off, .int .i64 f.A.m, .int .i64 f.A.k, .int .i64 f.A.d, .int .i64 f.A.n, .int .i64 f.A.s, .int .u8 f.A.z, .int .i64 f.A.v, .string f.A.t, .int .i64 f.B.m, .int .i64 f.B.k, .int .i64 f.B.d, .int .i64 f.B.n, .int .i64 f.B.s, .int .u8 f.B.z, .int .i64 f.B.v, .string f.B.t], .int .i64 t, .int .i64 mo] w fun e w' => e = .returned (.bool true) ∧ Below w.heap.size w w' := by
  have hb := bounds_i64 wt
  cases hf : okF f with
  | false =>
    have Z := stand_no f t 1 (fun w hL hT => around_arg f t hf w hL hT)
    exact core_FootGoesNo f t mo trZ trZ 1 (by decide) (given_any f) Z.1 Z.2 known_any w hT.1 hT.2
  | true =>
    obtain ⟨y, hy⟩ := yat_is t
    by_cases h : -4714 ≤ y ∧ y ≤ 294278
    · obtain ⟨j, hS, hA, hN⟩ := stand_ok f t y hf hy h.1 h.2 hb.1 hb.2
      have L := lh_of hf
      have hSj := hS
      obtain ⟨s1, s2, s3, s4⟩ := hSj
      have st := gs_step L (j := j) ⟨s1, s2⟩
      have a := gs_abs L (j := j) s1 (by omega)
      have b := gs_abs L (j := j + 1) (by omega) (by omega)
      have U : (∀ w : World, Cvl.Lens w → Clk.Tab w → Calls Tryd.prog 14 #[.agg (fL f).toArray, .int .i64 (gs f (j + 1)).t] w fun e w' => e = .returned (.tuple #[.agg (tL (gs f (j + 1))).toArray, .int .i64 0]) ∧ Below w.heap.size w w') ∨ (∃ c eh, eh ≠ 0 ∧ ∀ w : World, Cvl.Lens w → Clk.Tab w → Calls Tryd.prog 14 #[.agg (fL f).toArray, .int .i64 (gs f (j + 1)).t] w fun e w' => e = .returned (.tuple #[.agg (tL c).toArray, .int .i64 eh]) ∧ Below w.heap.size w w') := by
        by_cases hj : j + 1 ≤ 588562
        · have st2 := gs_step L (j := j + 1) ⟨by omega, hj⟩
          rcases at_again f hf (gs f (j + 1)).t (j + 1) b.1 (by omega) ⟨by omega, hj, Int.le_refl _, st2.1⟩ with q | q
          · exact .inl q
          · exact .inr ⟨trZ, 10, by decide, q⟩
        · obtain ⟨y', hy'⟩ := yat_is (gs f (j + 1)).t
          by_cases h' : -4714 ≤ y' ∧ y' ≤ 294278
          · obtain ⟨i, hS', hA', _⟩ := stand_ok f (gs f (j + 1)).t y' hf hy' h'.1 h'.2 (by omega) (by omega)
            exfalso
            obtain ⟨r1, r2, r3, r4⟩ := hS'
            have : (gs f (i + 1)).t ≤ (gs f (j + 1)).t := by
              by_cases e : i + 1 = j + 1
              · rw [e]; exact Int.le_refl _
              · have := gs_lt L (i := i + 1) (j := j + 1) (by omega) (by omega) (by omega); omega
            omega
          · exact .inr ⟨trZ, 10, by decide, (stand_no f (gs f (j + 1)).t 10 (fun w hL hT => around_range f (gs f (j + 1)).t y' hf hy' (by omega) (by omega) (by omega) w hL hT)).1⟩
      have V : ∀ m : Int, 0 ≤ m → m < (gs f (j + 1)).t - (gs f j).t → (∀ w : World, Cvl.Lens w → Clk.Tab w → Calls Tryd.prog 14 #[.agg (fL f).toArray, .int .i64 ((gs f j).t + m)] w fun e w' => e = .returned (.tuple #[.agg (tL (gs f j)).toArray, .int .i64 0]) ∧ Below w.heap.size w w') ∨ (∃ c eh, eh ≠ 0 ∧ ∀ w : World, Cvl.Lens w → Clk.Tab w → Calls Tryd.prog 14 #[.agg (fL f).toArray, .int .i64 ((gs f j).t + m)] w fun e w' => e = .returned (.tuple #[.agg (tL c).toArray, .int .i64 eh]) ∧ Below w.heap.size w w') := fun m m1 m2 => by
        rcases at_again f hf ((gs f j).t + m) j (by omega) (by omega) ⟨s1, s2, by omega, by omega⟩ with q | q
        · exact .inl q
        · exact .inr ⟨trZ, 10, by decide, q⟩
      by_cases c1 : mo < 0
      · rcases V ((gs f (j + 1)).t - (gs f j).t - 1) (by omega) (by omega) with v | ⟨d, ei, hi, v⟩ <;> rcases U with u | ⟨c, eh, hh, u⟩
        · exact core_FootGoes000 f t mo (gs f j) (gs f (j + 1)) (by omega) (by omega) c1 (by omega) (by omega) a.1 a.2 b.1 b.2 (given_any f) hA hN u v known_any w hT.1 hT.2
        · exact core_FootGoes100 f t mo (gs f j) (gs f (j + 1)) c eh hh (by omega) (by omega) c1 (by omega) (by omega) a.1 a.2 b.1 b.2 (given_any f) hA hN u v known_any w hT.1 hT.2
        · exact core_FootGoes001 f t mo (gs f j) (gs f (j + 1)) d ei hi (by omega) (by omega) c1 (by omega) (by omega) a.1 a.2 b.1 b.2 (given_any f) hA hN u v known_any w hT.1 hT.2
        · exact core_FootGoes101 f t mo (gs f j) (gs f (j + 1)) c d eh hh ei hi (by omega) (by omega) c1 (by omega) (by omega) a.1 a.2 b.1 b.2 (given_any f) hA hN u v known_any w hT.1 hT.2
      · by_cases c2 : (gs f (j + 1)).t - (gs f j).t ≤ mo
        · rcases V ((gs f (j + 1)).t - (gs f j).t - 1) (by omega) (by omega) with v | ⟨d, ei, hi, v⟩ <;> rcases U with u | ⟨c, eh, hh, u⟩
          · exact core_FootGoes010 f t mo (gs f j) (gs f (j + 1)) (by omega) (by omega) c1 c2 (by omega) (by omega) a.1 a.2 b.1 b.2 (given_any f) hA hN u v known_any w hT.1 hT.2
          · exact core_FootGoes110 f t mo (gs f j) (gs f (j + 1)) c eh hh (by omega) (by omega) c1 c2 (by omega) (by omega) a.1 a.2 b.1 b.2 (given_any f) hA hN u v known_any w hT.1 hT.2
          · exact core_FootGoes011 f t mo (gs f j) (gs f (j + 1)) d ei hi (by omega) (by omega) c1 c2 (by omega) (by omega) a.1 a.2 b.1 b.2 (given_any f) hA hN u v known_any w hT.1 hT.2
          · exact core_FootGoes111 f t mo (gs f j) (gs f (j + 1)) c d eh hh ei hi (by omega) (by omega) c1 c2 (by omega) (by omega) a.1 a.2 b.1 b.2 (given_any f) hA hN u v known_any w hT.1 hT.2
        · rcases V mo (by omega) (by omega) with v | ⟨d, ei, hi, v⟩ <;> rcases U with u | ⟨c, eh, hh, u⟩
          · exact core_FootGoes020 f t mo (gs f j) (gs f (j + 1)) (by omega) (by omega) c1 c2 (by omega) (by omega) a.1 a.2 b.1 b.2 (given_any f) hA hN u v known_any w hT.1 hT.2
          · exact core_FootGoes120 f t mo (gs f j) (gs f (j + 1)) c eh hh (by omega) (by omega) c1 c2 (by omega) (by omega) a.1 a.2 b.1 b.2 (given_any f) hA hN u v known_any w hT.1 hT.2
          · exact core_FootGoes021 f t mo (gs f j) (gs f (j + 1)) d ei hi (by omega) (by omega) c1 c2 (by omega) (by omega) a.1 a.2 b.1 b.2 (given_any f) hA hN u v known_any w hT.1 hT.2
          · exact core_FootGoes121 f t mo (gs f j) (gs f (j + 1)) c d eh hh ei hi (by omega) (by omega) c1 c2 (by omega) (by omega) a.1 a.2 b.1 b.2 (given_any f) hA hN u v known_any w hT.1 hT.2
    · have Z := stand_no f t 10 (fun w hL hT => around_range f t y hf hy hb.1 hb.2 (by omega) w hL hT)
      exact core_FootGoesNo f t mo trZ trZ 10 (by decide) (given_any f) Z.1 Z.2 known_any w hT.1 hT.2

set_option maxRecDepth 100000 in
theorem lifted (os : Os) (started : os.Started) (H : Type) (enc : TypeId × Value → H) :
    ReturnsInHanded {} Tryd.checked os 5 .any (fun w args => (Rows.footGoesSpec.pre enc Tryd.prog Tryd.f5 [] false w args ∧ laidMetH Tryd.prog Rows.footGoesRow.laid w) ∧ sizedMet enc Tryd.prog Tryd.f5 (OpenSpec.ofChange Rows.footGoesSpec) false w args)
      (Rows.footGoesSpec.post enc Tryd.prog Tryd.f5 false true false false) := by
  refine returnsInHanded_of_change_and (C := Tryd.checked) (X := fun w _ => laidMetH Tryd.prog Rows.footGoesRow.laid w) (fun _ _ _ hh h => h.of_heap hh) own started (by kernel_rfl) Tryd.func5
    (ChangeSpec.witness_shaped (enc := enc) (C := Tryd.checked) (os := os) (X := fun w _ => laidMetH Tryd.prog Rows.footGoesRow.laid w) false (World.doorLaid Tryd.prog 400 os) #[.agg #[.bool false, .int .i64 0, .int .i64 0, .int .i64 0, .int .i64 0, .int .i64 0, .int .i64 0, .int .i64 0, .int .u8 0, .int .i64 0, .string ⟨#[]⟩, .int .i64 0, .int .i64 0, .int .i64 0, .int .i64 0, .int .i64 0, .int .u8 0, .int .i64 0, .string ⟨#[]⟩], .int .i64 0, .int .i64 0] 8 rfl (World.shaped_of_RefB (by kernel_rfl) (by kernel_rfl)) (by kernel_rfl) (by kernel_rfl) (by kernel_rfl) (door_met os _)) ?_
  intro W base args ds gs before hval0 hW _ _ hL _
  have hval : ∀ (j : Nat) t v, Tryd.f5.params[j]? = some t → args[j]? = some v → Value.okWide Tryd.prog W .any base t v := hval0
  have hW' := hW
  obtain ⟨p, q, hA0, hV, rfl, hfz, hnd⟩ := hW
  have hA : DataW.TrodAll enc Tryd.prog W 0 (fun _ => true) true Tryd.f5.params.toList args.toList ds p := hA0
  rw [Tryd.params5] at hA hval
  obtain ⟨v0, vs0, d0, ds0, p0, q0, ha0, rfl, rfl, h0, r0⟩ := trodAll_cons hA
  obtain ⟨v1, vs1, d1, ds1, p1, q1, ha1, rfl, rfl, h1, r1⟩ := trodAll_cons r0
  obtain ⟨v2, vs2, d2, ds2, p2, q2, ha2, rfl, rfl, h2, r2⟩ := trodAll_cons r1
  obtain ⟨rfl, rfl, rfl⟩ := trodAll_nil r2
  subst ha2
  subst ha1
  obtain rfl : args = #[v0, v1, v2] := by cases args; simp_all
  obtain ⟨rfl, rfl⟩ := trodVars_none hV
  have hk0 := h0
  have hlt0 : ∀ x ∈ p0, x.block < W.heap.size := fun x hx => by simpa using hW'.lt x (by simp [hx])
  obtain ⟨f0, rfl, wf0⟩ := foot_open (hval 0 29 v0 rfl rfl) h0
  obtain ⟨a1, rfl, rfl, rfl, w1⟩ := open_int Tryd.underlying2 (hval 1 2 v1 rfl rfl) h1
  obtain ⟨a2, rfl, rfl, rfl, w2⟩ := open_int Tryd.underlying2 (hval 2 2 v2 rfl rfl) h2
  clear hA0 hval0
  simp only [List.append_nil] at hW'
  refine (walk W f0 wf0 a1 w1 a2 w2 (of_laid hL)).mono fun e W' ⟨he, hg⟩ => ?_
  subst he
  exact ⟨_, rfl, _, _, _, [], _, [], hW', (trodAll_cons_mk (shut_bool Tryd.underlying4 _) trodAll_mk0), (trodAll_cons_mk (Below.trod laidOutP (by kernel_rfl) (of_decide_eq_true (by kernel_rfl)) hk0 hg hlt0) (trodAll_cons_mk (shut_int Tryd.underlying2 w1) (trodAll_cons_mk (shut_int Tryd.underlying2 w2) trodAll_mk0))), rfl, hg.frame _, fun h => by cases h⟩

theorem over : Rows.footGoesRow.holds Tryd.pinned (OpenSpec.ofChange Rows.footGoesSpec) :=
  OpenClaim.holds_of_wide 5 Tryd.f5 rfl rfl rfl rfl rfl rfl rfl ⟨rfl, rfl, rfl, rfl, rfl⟩ rfl rfl rfl rfl rfl (by kernel_rfl) Tryd.func5 (by kernel_rfl)
    (of_decide_eq_true (by kernel_rfl)) (by unfold Func.isWrapper; first | (rw [if_pos (by decide +kernel)]; kernel_rfl) | (rw [if_neg (by decide +kernel)]; exact ⟨rfl, rfl⟩))
    (fun os started H enc _ => lifted os started H enc)

theorem proved : Rows.FootGoesCardSaid :=
  Claim7.holds_tied_plain_at .later [] [.data, .data, .data, .data] true (true, "2e9a5d94f2031cf50ddf848ef9b408c48e24073a734df665761314347aca71f4") true
    over (fun _ h => by cases h) (by kernel_rfl) (fun _ h => by cases h) footGoes_row_tie rfl ⟨rfl, rfl⟩ (by kernel_rfl) rfl
    (fun f fn hf hfn => by
      obtain rfl : f = 5 := Option.some.inj ((show Tryd.prog.funcNamed Rows.footGoesRow.func = some 5 by kernel_rfl).symm.trans hf) |>.symm
      obtain rfl : fn = Tryd.f5 := (Option.some.inj (Tryd.func5.symm.trans hfn)).symm
      exact ⟨by kernel_rfl, fun j t ht => by
        rw [Tryd.params5] at ht
        have hm : t ∈ [29, 2] := by simpa using Array.mem_of_getElem? ht
        have hall : ([29, 2].all fun u => !Tryd.prog.wantsStandIn u) = true := by kernel_rfl
        exact (show Tryd.prog.wantsStandIn t = false by simpa using List.all_eq_true.1 hall t hm)⟩)
    (by kernel_rfl)
end Go.Proofs.YthbcicjkmgoliaaDoor.footGoes
