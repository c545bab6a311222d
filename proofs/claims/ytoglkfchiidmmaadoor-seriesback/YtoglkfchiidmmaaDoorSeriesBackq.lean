/- Numbers that follow each other upwards are those that follow each other downwards, from the last one on, the other way round: SeriesBack returns true for every three int64s and every int. -/
import Derived.Test.YtoglkfchiidmmaaDoorRows
import Derived.Test.YtoglkfchiidmmaaDoorCards
import Derived.Test.YtoglkfchiidmmaaDoorTie
import Derived.WalkKit
import Derived.ProofKit
import Derived.LaidMore
import Derived.OpenShut
import Derived.ShutString
import Derived.Stop.Joined
import Derived.Lib.LaidTab
import Derived.Lib.SmallJoins
import Derived.Stop.LaidErr
import Derived.Lay
import Derived.SevenTiedAt
import Derived.ChangeMaps5
import Derived.SizedLaws
import Derived.Lib.LaidU8T
import Derived.Shelf.Vars
import Derived.Test.YtoglkfchiidmmaaDoorLwSeriesBackq
namespace Go.Proofs.YtoglkfchiidmmaaDoor.seriesBack
open Go.ChangeShapes Go.WideShapes Go.ChangeAt Go.WideMaps Go.WideElems Go.RowKit
set_option linter.unusedVariables false

theorem own : ownKnob Tryd.prog.godebug = none := by kernel_rfl

theorem gLen : Tryd.prog.globalNamed "computus/civil.lengths" = some 0 := by kernel_rfl
theorem tLen : (Tryd.prog.globals[0]?).map (·.type) = some 105 := by kernel_rfl
theorem uLen : Tryd.prog.underlying 105 = some (.array 12 2) := by kernel_rfl
/-- what the listed variable gives the walks: the twelve lengths. -/
theorem of_laid {W : World} (h : laidMetH Tryd.prog Rows.seriesBackRow.laid W) : Cvl.Lens W := by
  rw [MakeChecks.laidMetH_plain _ _ _ (by kernel_rfl)] at h
  have ht := Lib.tabIs_of_head (k := .i64) (zs := Cvl.tabL) (rest := _) gLen tLen uLen Tryd.underlying2 (by kernel_rfl) (by kernel_rfl) h
  exact fun i hi => ht.cell gLen i hi

theorem door_met (os : Os) (args : Array Value) : laidMetH Tryd.prog Rows.seriesBackRow.laid (((World.doorLaid Tryd.prog 400 os)).forCall (fun _ _ => 0) ⟨#[], args, []⟩).memory :=
  laidMetH_of_parts3 (fuel := 8) (laidMet_of_run' 8 (by kernel_rfl) (by kernel_rfl)) (by kernel_rfl) (by kernel_rfl)

theorem in_ok {a b s m : Int} (h : inE a b s m = 0) : (0 ≤ m ∧ m ≤ 1000) ∧ s ≠ 0 ∧ ¬ m < cntI a b s := by
  unfold inE at h
  cases hm : mostB m
  · rw [if_pos hm] at h; omega
  · have h2 : 0 ≤ m ∧ m ≤ 1000 := by unfold mostB at hm; simpa using hm
    rw [if_neg (by rw [hm]; decide)] at h
    by_cases z : s = 0
    · rw [if_pos z] at h; omega
    · rw [if_neg z] at h
      by_cases q : m < cntI a b s
      · rw [if_pos q] at h; omega
      · exact ⟨h2, z, q⟩
theorem back_cnt {a s : Int} (h0 : s ≠ 0) (n : Nat) : cntI (a + (n : Int) * s) a (-s) = (n : Int) + 1 := by
  by_cases hs : 0 < s
  · rw [cnt_dn (by omega) (by have : 0 ≤ (n : Int) * s := Int.mul_nonneg (by omega) (by omega); omega)]
    rw [show a + (n : Int) * s - a = (n : Int) * s by omega, Int.neg_neg, Int.mul_ediv_cancel _ h0]
  · have hs : s < 0 := by omega
    have e : (n : Int) * (-s) = -((n : Int) * s) := Int.mul_neg _ _
    have p : 0 ≤ (n : Int) * (-s) := Int.mul_nonneg (by omega) (by omega)
    rw [cnt_up (by omega) (by omega)]
    rw [show a - (a + (n : Int) * s) = (n : Int) * (-s) by omega, Int.mul_ediv_cancel _ (by omega)]

theorem walk (a : Int) (wa : (Lit.int .i64 a).wf = true) (b : Int) (wb : (Lit.int .i64 b).wf = true) (s : Int) (ws : (Lit.int .i64 s).wf = true) (m : Int) (wm : (Lit.int .i64 m).wf = true) (w : World) (hL : Cvl.Lens w) :
    Calls Tryd.prog 4 #[.int .i64 a, .int .i64 b, .int .i64 s, .int .i64 m] w fun r w' => r = .returned (.bool true) ∧ Below w.heap.size w w' := by
  obtain ⟨a1, a2⟩ := bounds_i64 wa
  obtain ⟨b1, b2⟩ := bounds_i64 wb
  obtain ⟨s1, s2⟩ := bounds_i64 ws
  have XI := fun w => ints_any a b s m a1 a2 b1 b2 s1 s2 w
  have KN := fun w (hw : Cvl.Lens w) => known21_any w hw
  by_cases hE : inE a b s m = 0
  · obtain ⟨hm, h0, hq⟩ := in_ok hE
    have bd := cnt_bd (a := a) (b := b) h0 a1 a2 b1 b2
    have hLs : inL a b s m = arI a s (cntI a b s).toNat := by unfold inL; rw [if_pos hE]
    rw [hE, hLs] at XI
    by_cases hn : cntI a b s = 0
    · rw [hn] at XI
      exact sb_nil a b s m XI KN w (Dy.lens_of hL)
    · obtain ⟨n, hn1⟩ : ∃ n : Nat, (cntI a b s).toNat = n + 1 := ⟨(cntI a b s).toNat - 1, by omega⟩
      rw [hn1] at XI
      by_cases hsm : s = -9223372036854775808
      · subst hsm
        exact sb_min a b m n _ (arI_len _ _ _) (by omega) XI KN w (Dy.lens_of hL)
      · have hz := row_i64 h0 a1 a2 b1 b2 n (show (n : Int) < cntI a b s by omega)
        have hc := back_cnt (a := a) h0 n
        have hE2 : inE (a + (n : Int) * s) a (-s) m = 0 := by
          unfold inE
          rw [if_neg (by unfold mostB; rw [decide_eq_true hm.1, decide_eq_true hm.2]; decide), if_neg (by omega), if_neg (by rw [hc]; omega)]
        have YI := fun w => ints_any (a + (n : Int) * s) a (-s) m hz.1 hz.2 a1 a2 (by omega) (by omega) w
        rw [hE2, show inL (a + (n : Int) * s) a (-s) m = arI (a + (n : Int) * s) (-s) (n + 1) by unfold inL; rw [if_pos hE2, hc]; rfl] at YI
        refine sb_run a b s m (a + (n : Int) * s) n _ _ (arI_len _ _ _) (by omega) (arI_len _ _ _) hsm (by rw [IntKind.wrap_i64]; omega) (arI_get (by omega)) (fun i x hx => ?_) XI YI KN w (Dy.lens_of hL)
        have hi : i < n + 1 := by have := (List.getElem?_eq_some_iff.1 hx).1; rwa [arI_len] at this
        rw [arI_get hi] at hx
        cases hx
        rw [arI_get (show n - i < n + 1 by omega)]
        congr 1
        rw [show ((n - i : Nat) : Int) = (n : Int) - (i : Int) by omega, Int.mul_neg, Int.sub_mul]
        omega
  · exact sb_no a b s m _ _ hE XI KN w (Dy.lens_of hL)

set_option maxRecDepth 100000 in
theorem lifted (os : Os) (started : os.Started) (H : Type) (enc : TypeId × Value → H) :
    ReturnsInHanded {} Tryd.checked os 4 .any (fun w args => (Rows.seriesBackSpec.pre enc Tryd.prog Tryd.f4 [] false w args ∧ laidMetH Tryd.prog Rows.seriesBackRow.laid w) ∧ sizedMet enc Tryd.prog Tryd.f4 (OpenSpec.ofChange Rows.seriesBackSpec) false w args)
      (Rows.seriesBackSpec.post enc Tryd.prog Tryd.f4 false true false false) := by
  refine returnsInHanded_of_change_and (C := Tryd.checked) (X := fun w _ => laidMetH Tryd.prog Rows.seriesBackRow.laid w) (fun _ _ _ hh h => h.of_heap hh) own started (by kernel_rfl) Tryd.func4
    (ChangeSpec.witness_shaped (enc := enc) (C := Tryd.checked) (os := os) (X := fun w _ => laidMetH Tryd.prog Rows.seriesBackRow.laid w) false (World.doorLaid Tryd.prog 400 os) #[.int .i64 0, .int .i64 0, .int .i64 0, .int .i64 0] 8 rfl (World.shaped_of_RefB (by kernel_rfl) (by kernel_rfl)) (by kernel_rfl) (by kernel_rfl) (by kernel_rfl) (door_met os _)) ?_
  intro W base args ds gs before hval0 hW _ _ hL _
  have hval : ∀ (j : Nat) t v, Tryd.f4.params[j]? = some t → args[j]? = some v → Value.okWide Tryd.prog W .any base t v := hval0
  have hW' := hW
  obtain ⟨p, q, hA0, hV, rfl, hfz, hnd⟩ := hW
  have hA : DataW.TrodAll enc Tryd.prog W 0 (fun _ => true) true Tryd.f4.params.toList args.toList ds p := hA0
  rw [Tryd.params4] at hA hval
  obtain ⟨v0, vs0, d0, ds0, p0, q0, ha0, rfl, rfl, h0, r0⟩ := trodAll_cons hA
  obtain ⟨v1, vs1, d1, ds1, p1, q1, ha1, rfl, rfl, h1, r1⟩ := trodAll_cons r0
  obtain ⟨v2, vs2, d2, ds2, p2, q2, ha2, rfl, rfl, h2, r2⟩ := trodAll_cons r1
  obtain ⟨v3, vs3, d3, ds3, p3, q3, ha3, rfl, rfl, h3, r3⟩ := trodAll_cons r2
  obtain ⟨rfl, rfl, rfl⟩ := trodAll_nil r3
  subst ha3
  subst ha2
  subst ha1
  obtain rfl : args = #[v0, v1, v2, v3] := by cases args; simp_all
  obtain ⟨rfl, rfl⟩ := trodVars_none hV
  obtain ⟨a0, rfl, rfl, rfl, w0⟩ := open_int Tryd.underlying2 (hval 0 2 v0 rfl rfl) h0
  obtain ⟨a1, rfl, rfl, rfl, w1⟩ := open_int Tryd.underlying2 (hval 1 2 v1 rfl rfl) h1
  obtain ⟨a2, rfl, rfl, rfl, w2⟩ := open_int Tryd.underlying2 (hval 2 2 v2 rfl rfl) h2
  obtain ⟨a3, rfl, rfl, rfl, w3⟩ := open_int Tryd.underlying3 (hval 3 3 v3 rfl rfl) h3
  clear hA0 hval0
  simp only [List.append_nil] at hW'
  refine (walk a0 w0 a1 w1 a2 w2 a3 w3 W (of_laid hL)).mono fun e W' ⟨he, hg⟩ => ?_
  subst he
  exact ⟨_, rfl, _, _, _, [], [], [], hW', (trodAll_cons_mk (shut_bool Tryd.underlying4 _) trodAll_mk0), (trodAll_cons_mk (shut_int Tryd.underlying2 w0) (trodAll_cons_mk (shut_int Tryd.underlying2 w1) (trodAll_cons_mk (shut_int Tryd.underlying2 w2) (trodAll_cons_mk (shut_int Tryd.underlying3 w3) trodAll_mk0)))), rfl, hg.frame _, fun h => by cases h⟩

theorem over : Rows.seriesBackRow.holds Tryd.pinned (OpenSpec.ofChange Rows.seriesBackSpec) :=
  OpenClaim.holds_of_wide 4 Tryd.f4 rfl rfl rfl rfl rfl rfl rfl ⟨rfl, rfl, rfl, rfl, rfl⟩ rfl rfl rfl rfl rfl (by kernel_rfl) Tryd.func4 (by kernel_rfl)
    (of_decide_eq_true (by kernel_rfl)) (by unfold Func.isWrapper; first | (rw [if_pos (by decide +kernel)]; kernel_rfl) | (rw [if_neg (by decide +kernel)]; exact ⟨rfl, rfl⟩))
    (fun os started H enc _ => lifted os started H enc)

theorem proved : Rows.SeriesBackCardSaid :=
  Claim7.holds_tied_plain_at .later [] [.data] true (true, "d1bd10fccbcd6aee01301624f18a0aca9a410883fff67afc58aa21996f41b02a") true
    over (fun _ h => by cases h) (by kernel_rfl) (fun _ h => by cases h) seriesBack_row_tie rfl ⟨rfl, rfl⟩ (by kernel_rfl) rfl
    (fun f fn hf hfn => by
      obtain rfl : f = 4 := Option.some.inj ((show Tryd.prog.funcNamed Rows.seriesBackRow.func = some 4 by kernel_rfl).symm.trans hf) |>.symm
      obtain rfl : fn = Tryd.f4 := (Option.some.inj (Tryd.func4.symm.trans hfn)).symm
      exact ⟨by kernel_rfl, fun j t ht => by
        rw [Tryd.params4] at ht
        have hm : t ∈ [2, 3] := by simpa using Array.mem_of_getElem? ht
        have hall : ([2, 3].all fun u => !Tryd.prog.wantsStandIn u) = true := by kernel_rfl
        exact (show Tryd.prog.wantsStandIn t = false by simpa using List.all_eq_true.1 hall t hm)⟩)
    (by kernel_rfl)
end Go.Proofs.YtoglkfchiidmmaaDoor.seriesBack
