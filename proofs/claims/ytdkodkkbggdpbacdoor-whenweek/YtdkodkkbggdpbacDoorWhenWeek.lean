/- The first weekday at a day, or behind, is a week ahead of that at the day a week later, and the last one at a day, or ahead, is that at six days ahead, or behind: WhenWeek returns true for every year, month and day as it is said, where the table of the months' lengths is as the program's text lays it. -/
import Derived.Test.YtdkodkkbggdpbacDoorRows
import Derived.Test.YtdkodkkbggdpbacDoorCards
import Derived.Test.YtdkodkkbggdpbacDoorTie
import Derived.WalkKit
import Derived.ProofKit
import Derived.LaidMore
import Derived.OpenShut
import Derived.ShutString
import Derived.Stop.Joined
import Derived.Lib.LaidTab
import Derived.Lib.SmallJoins
import Derived.Stop.LaidErr
import Derived.Lay
import Derived.SevenTiedAt
import Derived.ChangeMaps5
import Derived.SizedLaws
import Derived.Lib.LaidU8T
import Derived.Test.YtdkodkkbggdpbacDoorLwWhenWeek
namespace Go.Proofs.YtdkodkkbggdpbacDoor.whenWeek
open Go.ChangeShapes Go.WideShapes Go.ChangeAt Go.WideMaps Go.WideElems Go.RowKit
set_option linter.unusedVariables false

theorem own : ownKnob Tryd.prog.godebug = none := by kernel_rfl

theorem gLen : Tryd.prog.globalNamed "computus/civil.lengths" = some 0 := by kernel_rfl
theorem tLen : (Tryd.prog.globals[0]?).map (·.type) = some 57 := by kernel_rfl
theorem uLen : Tryd.prog.underlying 57 = some (.array 12 2) := by kernel_rfl
/-- what the listed variable gives the walks: the twelve lengths. -/
theorem of_laid {W : World} (h : laidMetH Tryd.prog Rows.whenWeekRow.laid W) : Cvl.Lens W := by
  rw [MakeChecks.laidMetH_plain _ _ _ (by kernel_rfl)] at h
  have ht := Lib.tabIs_of_head (k := .i64) (zs := Cvl.tabL) gLen tLen uLen Tryd.underlying2 (by kernel_rfl) (by kernel_rfl) h
  exact fun i hi => ht.cell gLen i hi

theorem door_met (os : Os) (args : Array Value) : laidMetH Tryd.prog Rows.whenWeekRow.laid (((World.doorLaid Tryd.prog 400 os)).forCall (fun _ _ => 0) ⟨#[], args, []⟩).memory :=
  laidMetH_of_parts3 (fuel := 8) (laidMet_of_run' 8 (by kernel_rfl) (by kernel_rfl)) (by kernel_rfl) (by kernel_rfl)

theorem bk_bd2 (n d : Int) : n - 6 ≤ bk n d := (bk_bd n d).1

theorem dy_in {y m k d n : Int} (ho : okOn k d n) (m1 : 1 ≤ m) (m2 : m ≤ 12) (hy : dyY y) : dyV y m k d n = dayN (fst1 y m) (Cv.len y m) k d n ∧ dyE y m k d n = 0 := by
  have ha : dyA m k d n := ⟨ho, m1, m2⟩
  unfold dyV dyE
  rw [if_pos ha, if_pos ha, if_pos hy, if_pos hy]
  exact ⟨rfl, rfl⟩

theorem walk (y : Int) (wy : (Lit.int .i64 y).wf = true) (m : Int) (wm : (Lit.int .i64 m).wf = true) (k d n : Int) (wk : (Lit.int .i64 k).wf = true) (wd : (Lit.int .i64 d).wf = true) (wn : (Lit.int .i64 n).wf = true) (w : World) (hL : Cvl.Lens w) :
    Calls Tryd.prog 3 #[.int .i64 y, .int .i64 m, .agg #[.int .i64 k, .int .i64 d, .int .i64 n]] w fun e w' => e = .returned (.bool true) ∧ Below w.heap.size w w' := by
  have C1 := fun (w : World) (h : Cvl.Lens w) => day_any y m k d n w h
  by_cases ha : dyA m k d n ∧ dyY y
  · obtain ⟨⟨ho, m1, m2⟩, hy⟩ := ha
    have e := dy_in ho m1 m2 hy
    have bd := fst1_bd hy m1 m2
    have key : ∀ k' n' : Int, okOn k' d n' → ∀ V, dayN (fst1 y m) (Cv.len y m) k' d n' = V → Hid (∀ w : World, Cvl.Lens w → Calls Tryd.prog 4 #[.int .i64 y, .int .i64 m, .agg #[.int .i64 k', .int .i64 d, .int .i64 n']] w fun e w' => e = .returned (.tuple #[.int .i64 V, .int .i64 0]) ∧ Below w.heap.size w w') := fun k' n' ho' V hV w h => by
      have R := day_any y m k' d n' w h
      have e' := dy_in ho' m1 m2 hy
      rw [e'.1, e'.2, hV] at R
      exact R
    rw [e.1, e.2] at C1
    by_cases hk : k < 2
    · exact core_WhenWeek_few y m k d n _ hk given_any C1 known_any w hL
    · generalize fst1 y m = F at *
      generalize Cv.len y m = L at *
      rcases ho with ⟨rfl, _⟩ | ⟨rfl, _⟩ | ⟨rfl | rfl, a1, a2, a3, a4⟩
      · omega
      · omega
      · have b := bk_bd (F + n - 1 + 7 - 1) d
        by_cases c : n + 7 ≤ 31
        · refine core_WhenWeek_2ac y m d n (bk (F + n - 1 + 7 - 1) d) a3 a4 (by omega) (by omega) c given_any C1 (key 2 (n + 7) (.inr (.inr ⟨.inl rfl, a1, a2, by omega, c⟩)) _ ?_) known_any w hL
          show bk (F + (n + 7) - 1 + 7 - 1) d = bk (F + n - 1 + 7 - 1) d + 7
          unfold bk; omega
        · exact core_WhenWeek_2bc y m d n (bk (F + n - 1 + 7 - 1) d) a3 a4 (by omega) (by omega) c given_any C1 known_any w hL
      · have b := bk_bd (F + n - 1) d
        have k3 : n + 7 ≤ 31 → dayN F L 3 d (n + 7) = bk (F + n - 1) d + 7 := fun _ => by
          show bk (F + (n + 7) - 1) d = bk (F + n - 1) d + 7
          unfold bk; omega
        have k2 : dayN F L 2 d (n - 6) = bk (F + n - 1) d := by
          show bk (F + (n - 6) - 1 + 7 - 1) d = bk (F + n - 1) d
          rw [show F + (n - 6) - 1 + 7 - 1 = F + n - 1 by omega]
        by_cases c : n + 7 ≤ 31
        · by_cases c2 : n - 6 < 1
          · exact core_WhenWeek_3ac y m d n (bk (F + n - 1) d) a3 a4 (by omega) (by omega) c c2 given_any C1 (key 3 (n + 7) (.inr (.inr ⟨.inr rfl, a1, a2, by omega, c⟩)) _ (k3 c)) known_any w hL
          · exact core_WhenWeek_3ad y m d n (bk (F + n - 1) d) a3 a4 (by omega) (by omega) c c2 given_any C1 (key 3 (n + 7) (.inr (.inr ⟨.inr rfl, a1, a2, by omega, c⟩)) _ (k3 c)) (key 2 (n - 6) (.inr (.inr ⟨.inl rfl, a1, a2, by omega, by omega⟩)) _ k2) known_any w hL
        · exact core_WhenWeek_3bd y m d n (bk (F + n - 1) d) a3 a4 (by omega) (by omega) c (by omega) given_any C1 (key 2 (n - 6) (.inr (.inr ⟨.inl rfl, a1, a2, by omega, by omega⟩)) _ k2) known_any w hL
  · have hE : dyE y m k d n ≠ 0 := by
      unfold dyE
      by_cases h1 : dyA m k d n
      · rw [if_pos h1, if_neg (fun h2 => ha ⟨h1, h2⟩)]; decide
      · rw [if_neg h1]; decide
    exact core_WhenWeek_out y m k d n _ _ hE given_any C1 known_any w hL

set_option maxRecDepth 100000 in
theorem lifted (os : Os) (started : os.Started) (H : Type) (enc : TypeId × Value → H) :
    ReturnsInHanded {} Tryd.checked os 3 .any (fun w args => (Rows.whenWeekSpec.pre enc Tryd.prog Tryd.f3 [] false w args ∧ laidMetH Tryd.prog Rows.whenWeekRow.laid w) ∧ sizedMet enc Tryd.prog Tryd.f3 (OpenSpec.ofChange Rows.whenWeekSpec) false w args)
      (Rows.whenWeekSpec.post enc Tryd.prog Tryd.f3 false true false false) := by
  refine returnsInHanded_of_change_and (C := Tryd.checked) (X := fun w _ => laidMetH Tryd.prog Rows.whenWeekRow.laid w) (fun _ _ _ hh h => h.of_heap hh) own started (by kernel_rfl) Tryd.func3
    (ChangeSpec.witness_shaped (enc := enc) (C := Tryd.checked) (os := os) (X := fun w _ => laidMetH Tryd.prog Rows.whenWeekRow.laid w) false (World.doorLaid Tryd.prog 400 os) #[.int .i64 0, .int .i64 0, .agg #[.int .i64 0, .int .i64 0, .int .i64 0]] 8 rfl (World.shaped_of_RefB (by kernel_rfl) (by kernel_rfl)) (by kernel_rfl) (by kernel_rfl) (by kernel_rfl) (door_met os _)) ?_
  intro W base args ds gs before hval0 hW _ _ hL _
  have hval : ∀ (j : Nat) t v, Tryd.f3.params[j]? = some t → args[j]? = some v → Value.okWide Tryd.prog W .any base t v := hval0
  have hW' := hW
  obtain ⟨p, q, hA0, hV, rfl, hfz, hnd⟩ := hW
  have hA : DataW.TrodAll enc Tryd.prog W 0 (fun _ => true) true Tryd.f3.params.toList args.toList ds p := hA0
  rw [Tryd.params3] at hA hval
  obtain ⟨v0, vs0, d0, ds0, p0, q0, ha0, rfl, rfl, h0, r0⟩ := trodAll_cons hA
  obtain ⟨v1, vs1, d1, ds1, p1, q1, ha1, rfl, rfl, h1, r1⟩ := trodAll_cons r0
  obtain ⟨v2, vs2, d2, ds2, p2, q2, ha2, rfl, rfl, h2, r2⟩ := trodAll_cons r1
  obtain ⟨rfl, rfl, rfl⟩ := trodAll_nil r2
  subst ha2
  subst ha1
  obtain rfl : args = #[v0, v1, v2] := by cases args; simp_all
  obtain ⟨rfl, rfl⟩ := trodVars_none hV
  obtain ⟨a0, rfl, rfl, rfl, w0⟩ := open_int Tryd.underlying2 (hval 0 2 v0 rfl rfl) h0
  obtain ⟨a1, rfl, rfl, rfl, w1⟩ := open_int Tryd.underlying2 (hval 1 2 v1 rfl rfl) h1
  obtain ⟨c2_0, c2_1, c2_2, y2_0, y2_1, y2_2, m2, rfl, rfl, rfl, hy2_0, hy2_1, hy2_2⟩ := Joins.open_agg3 Tryd.underlying23 (by kernel_rfl) (show Tryd.prog.cellsOf 23 = 3 by kernel_rfl) (hval 2 23 v2 rfl rfl) h2
  obtain ⟨n2_0, i2_0, rfl, wn2_0⟩ := DataW.trod_int Tryd.underlying3 hy2_0
  simp at i2_0
  subst i2_0
  obtain ⟨n2_1, i2_1, rfl, wn2_1⟩ := DataW.trod_int Tryd.underlying2 hy2_1
  simp at i2_1
  subst i2_1
  obtain ⟨n2_2, i2_2, rfl, wn2_2⟩ := DataW.trod_int Tryd.underlying2 hy2_2
  simp at i2_2
  subst i2_2
  clear hA0 hval0
  simp only [List.append_nil] at hW'
  refine (walk a0 w0 a1 w1 n2_0 n2_1 n2_2 wn2_0 wn2_1 wn2_2 W (of_laid hL)).mono fun e W' ⟨he, hg⟩ => ?_
  subst he
  exact ⟨_, rfl, _, _, _, [], [], [], hW', (trodAll_cons_mk (shut_bool Tryd.underlying4 _) trodAll_mk0), (trodAll_cons_mk (shut_int Tryd.underlying2 w0) (trodAll_cons_mk (shut_int Tryd.underlying2 w1) (trodAll_cons_mk ((Joins.shut_agg3 (y0 := (.lit (.int .i64 n2_0), [])) (y1 := (.lit (.int .i64 n2_1), [])) (y2 := (.lit (.int .i64 n2_2), [])) Tryd.underlying23 (by kernel_rfl) (show Tryd.prog.cellsOf 23 = 3 by kernel_rfl) ⟨1, by simp [DataW.trod, Tryd.underlying3, wn2_0]⟩ ⟨1, by simp [DataW.trod, Tryd.underlying2, wn2_1]⟩ ⟨1, by simp [DataW.trod, Tryd.underlying2, wn2_2]⟩)) trodAll_mk0))), rfl, hg.frame _, fun h => by cases h⟩

theorem over : Rows.whenWeekRow.holds Tryd.pinned (OpenSpec.ofChange Rows.whenWeekSpec) :=
  OpenClaim.holds_of_wide 3 Tryd.f3 rfl rfl rfl rfl rfl rfl rfl ⟨rfl, rfl, rfl, rfl, rfl⟩ rfl rfl rfl rfl rfl (by kernel_rfl) Tryd.func3 (by kernel_rfl)
    (of_decide_eq_true (by kernel_rfl)) (by unfold Func.isWrapper; first | (rw [if_pos (by decide +kernel)]; kernel_rfl) | (rw [if_neg (by decide +kernel)]; exact ⟨rfl, rfl⟩))
    (fun os started H enc _ => lifted os started H enc)

theorem proved : Rows.WhenWeekCardSaid :=
  Claim7.holds_tied_plain_at .later [] [.data] true (true, "31da3511197b02eb1959e95843704189f6cec06c41b1413d8fbe63cfe2032c06") true
    over (fun _ h => by cases h) (by kernel_rfl) (fun _ h => by cases h) whenWeek_row_tie rfl ⟨rfl, rfl⟩ (by kernel_rfl) rfl
    (fun f fn hf hfn => by
      obtain rfl : f = 3 := Option.some.inj ((show Tryd.prog.funcNamed Rows.whenWeekRow.func = some 3 by kernel_rfl).symm.trans hf) |>.symm
      obtain rfl : fn = Tryd.f3 := (Option.some.inj (Tryd.func3.symm.trans hfn)).symm
      exact ⟨by kernel_rfl, fun j t ht => by
        rw [Tryd.params3] at ht
        have hm : t ∈ [2, 23] := by simpa using Array.mem_of_getElem? ht
        have hall : ([2, 23].all fun u => !Tryd.prog.wantsStandIn u) = true := by kernel_rfl
        exact (show Tryd.prog.wantsStandIn t = false by simpa using List.all_eq_true.1 hall t hm)⟩)
    (by kernel_rfl)
end Go.Proofs.YtdkodkkbggdpbacDoor.whenWeek
