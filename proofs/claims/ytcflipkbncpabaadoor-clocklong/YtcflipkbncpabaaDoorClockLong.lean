/- A span below nought is written as that above, with a sign ahead: ClockLong returns true for every int64, where the listed tables are as the program's text lays them. -/
import Derived.Test.YtcflipkbncpabaaDoorRows
import Derived.Test.YtcflipkbncpabaaDoorCards
import Derived.Test.YtcflipkbncpabaaDoorTie
import Derived.WalkKit
import Derived.ProofKit
import Derived.LaidMore
import Derived.OpenShut
import Derived.ShutString
import Derived.Stop.Joined
import Derived.Lib.LaidTab
import Derived.Lib.SmallJoins
import Derived.Stop.LaidErr
import Derived.Lay
import Derived.SevenTiedAt
import Derived.Test.YtcflipkbncpabaaDoorClkK
namespace Go.Proofs.YtcflipkbncpabaaDoor.clockLong
open Go.ChangeShapes Go.WideShapes Go.ChangeAt Go.WideMaps Go.WideElems Go.RowKit
set_option linter.unusedVariables false

theorem own : ownKnob Tryd.prog.godebug = none := by kernel_rfl

theorem gTab : Tryd.prog.globalNamed "internal/strconv.uint64pow10" = some 0 := by kernel_rfl
theorem tTab : (Tryd.prog.globals[0]?).map (·.type) = some 76 := by kernel_rfl
theorem uTab : Tryd.prog.underlying 76 = some (.array 20 42) := by kernel_rfl
/-- what the listed variable gives the walks: the powers of ten. -/
theorem of_laid {W : World} (h : laidMetH Tryd.prog Rows.clockLongRow.laid W) : Tab W := by
  rw [MakeChecks.laidMetH_plain _ _ _ (by kernel_rfl)] at h
  exact Lib.tabIs_of_head (k := .u64) (zs := Lib.pow10Tab) gTab tTab uTab Tryd.underlying42 (by kernel_rfl) (by kernel_rfl) h.tail.tail

theorem door_met (os : Os) (args : Array Value) : laidMetH Tryd.prog Rows.clockLongRow.laid (((World.laidAll Tryd.prog os Rows.clockLongRow.laid)).forCall (fun _ _ => 0) ⟨#[], args, []⟩).memory := by
  rw [MakeChecks.laidMetH_plain _ _ _ (by kernel_rfl)]; exact laidMet_laidAll _ (by kernel_rfl) (by kernel_rfl)

theorem wf_bd {a : Int} (h : (Lit.int .i64 a).wf = true) : -9223372036854775808 ≤ a ∧ a ≤ 9223372036854775807 := by
  have e : IntKind.i64.min = -9223372036854775808 := by decide
  simpa [Lit.wf, e] using h
theorem long_turn {a : Int} (h : 0 < a) : longB (-a) = ⟨#[45]⟩ ++ longB a := by
  unfold longB
  rw [if_pos (by omega), if_neg (by omega)]
  simp only [Int.neg_tdiv, Int.neg_tmod, Int.neg_neg]
theorem longB_size {a : Int} (h0 : 0 ≤ a) (h1 : a ≤ 9223372036854775807) : (longB a).size ≤ 100 := by
  have x : -4611686018427387904 ≤ a.tdiv 3600000000 ∧ a.tdiv 3600000000 ≤ 4611686018427387904 := tdivK 3600000000 (by decide) (by omega) h1
  have d := tmod60 (a.tdiv 60000000)
  have e := tmod60 (a.tdiv 1000000)
  unfold longB
  rw [if_neg (by omega)]
  exact faceB_size (by omega) (by omega) (by omega) (by omega) (by omega) (by omega)

set_option maxRecDepth 100000 in
set_option maxHeartbeats 2000000 in
theorem core_zero (us : Int) (h : us = 0 ∨ us = -1)
    (H0 : Hid (∀ w : World, Tab w → Calls Tryd.prog 20 #[.int .i64 0] w fun e w' => e = .returned (.string ⟨#[48, 48, 58, 48, 48, 58, 48, 48]⟩) ∧ Below w.heap.size w w')) (w : World) (hT : Hid (Tab w)) :
    Calls Tryd.prog 8 #[.int .i64 us] w fun e w' => e = .returned (.bool true) ∧ Below w.heap.size w w' := by
  rcases h with rfl | rfl
  all_goals
    go_enter Tryd.func8, Tryd.ntmps8
    go_wp2_with fail
    refine (H0.out _ hT.out).mono ?_
    rintro e w1 ⟨rfl, B1⟩
    go_wp2_with fail
    refine (known_any _ (hT.out.below B1)).mono ?_
    rintro e w2 ⟨rfl, b2⟩
    go_wp2
    go_ret
    exact ⟨rfl, B1.trans (b2.mono B1.size)⟩

set_option maxRecDepth 100000 in
set_option maxHeartbeats 2000000 in
theorem core_pos (us a : Int) (F : ByteArray) (hF : F.size ≤ 100) (h : (¬ us < 0 ∧ us = a) ∨ (us < 0 ∧ -(us + 1) = a)) (ha : 0 < a) (ha2 : a ≤ 9223372036854775807) (hu : -9223372036854775808 ≤ us)
    (H1 : Hid (∀ w : World, Tab w → Calls Tryd.prog 20 #[.int .i64 (-a)] w fun e w' => e = .returned (.string (⟨#[45]⟩ ++ F)) ∧ Below w.heap.size w w'))
    (H2 : Hid (∀ w : World, Tab w → Calls Tryd.prog 20 #[.int .i64 a] w fun e w' => e = .returned (.string F) ∧ Below w.heap.size w w')) (w : World) (hT : Hid (Tab w)) :
    Calls Tryd.prog 8 #[.int .i64 us] w fun e w' => e = .returned (.bool true) ∧ Below w.heap.size w w' := by
  have a0 : (a == 0) = false := by rw [beq_eq_false_iff_ne]; omega
  rcases h with ⟨hn, he⟩ | ⟨hn, he⟩
  · subst he
    go_enter Tryd.func8, Tryd.ntmps8
    go_wp2_with fail
    refine (H1.out _ hT.out).mono ?_
    rintro e w1 ⟨rfl, B1⟩
    have T1 := hT.out.below B1
    go_wp2_with fail
    refine (H2.out _ T1).mono ?_
    rintro e w2 ⟨rfl, b2⟩
    have T2 := T1.below b2
    have B2 := B1.trans (b2.mono B1.size)
    clear b2 B1 T1
    go_wp2_with fail
    refine (known_any _ T2).mono ?_
    rintro e w3 ⟨rfl, b3⟩
    go_wp2
    go_ret
    exact ⟨rfl, B2.trans (b3.mono B2.size)⟩
  · go_enter Tryd.func8, Tryd.ntmps8
    go_wp2_with fail
    refine (H1.out _ hT.out).mono ?_
    rintro e w1 ⟨rfl, B1⟩
    have T1 := hT.out.below B1
    go_wp2_with fail
    refine (H2.out _ T1).mono ?_
    rintro e w2 ⟨rfl, b2⟩
    have T2 := T1.below b2
    have B2 := B1.trans (b2.mono B1.size)
    clear b2 B1 T1
    go_wp2_with fail
    refine (known_any _ T2).mono ?_
    rintro e w3 ⟨rfl, b3⟩
    go_wp2
    go_ret
    exact ⟨rfl, B2.trans (b3.mono B2.size)⟩

theorem walk (us : Int) (wu : (Lit.int .i64 us).wf = true) (w : World) (hT : Tab w) :
    Calls Tryd.prog 8 #[.int .i64 us] w fun e w' => e = .returned (.bool true) ∧ Below w.heap.size w w' := by
  obtain ⟨h1, h2⟩ := wf_bd wu
  by_cases hz : us = 0 ∨ us = -1
  · refine core_zero us hz (fun w k => ?_) w hT
    have q := long_any 0 (by decide) (by decide) w k
    rw [show longB 0 = ⟨#[48, 48, 58, 48, 48, 58, 48, 48]⟩ by decide +kernel] at q
    exact q
  · obtain ⟨a, ha⟩ : ∃ a : Int, a = if us < 0 then -(us + 1) else us := ⟨_, rfl⟩
    have a1 : 0 < a ∧ a ≤ 9223372036854775807 := by split at ha <;> omega
    refine core_pos us a (longB a) (longB_size (by omega) a1.2) (by split at ha <;> omega) a1.1 a1.2 h1 (fun w k => ?_) (long_any a (by omega) a1.2) w hT
    have q := long_any (-a) (by omega) (by omega) w k
    rw [long_turn a1.1] at q
    exact q

set_option maxRecDepth 100000 in
theorem lifted (os : Os) (started : os.Started) (H : Type) (enc : TypeId × Value → H) :
    ReturnsInHanded {} Tryd.checked os 8 .any (fun w args => (Rows.clockLongSpec.pre enc Tryd.prog Tryd.f8 [] false w args ∧ laidMetH Tryd.prog Rows.clockLongRow.laid w) ∧ sizedMet enc Tryd.prog Tryd.f8 (OpenSpec.ofChange Rows.clockLongSpec) false w args)
      (Rows.clockLongSpec.post enc Tryd.prog Tryd.f8 false true false false) := by
  refine returnsInHanded_of_change_and (C := Tryd.checked) (X := fun w _ => laidMetH Tryd.prog Rows.clockLongRow.laid w) (fun _ _ _ hh h => h.of_heap hh) own started (by kernel_rfl) Tryd.func8
    (ChangeSpec.witness_shaped (enc := enc) (C := Tryd.checked) (os := os) (X := fun w _ => laidMetH Tryd.prog Rows.clockLongRow.laid w) false (World.laidAll Tryd.prog os Rows.clockLongRow.laid) #[.int .i64 0] 8 (World.laidAll_os _ _ _) (World.shaped_of_ZipB (by kernel_rfl) (by kernel_rfl)) (by kernel_rfl) (by kernel_rfl) (by kernel_rfl) (door_met os _)) ?_
  intro W base args ds gs before hval0 hW _ _ hL _
  have hval : ∀ (j : Nat) t v, Tryd.f8.params[j]? = some t → args[j]? = some v → Value.okWide Tryd.prog W .any base t v := hval0
  have hW' := hW
  obtain ⟨p, q, hA0, hV, rfl, hfz, hnd⟩ := hW
  have hA : DataW.TrodAll enc Tryd.prog W 0 (fun _ => true) true Tryd.f8.params.toList args.toList ds p := hA0
  rw [Tryd.params8] at hA hval
  obtain ⟨v0, vs0, d0, ds0, p0, q0, ha0, rfl, rfl, h0, r0⟩ := trodAll_cons hA
  obtain ⟨rfl, rfl, rfl⟩ := trodAll_nil r0
  obtain rfl : args = #[v0] := by cases args; simp_all
  obtain ⟨rfl, rfl⟩ := trodVars_none hV
  obtain ⟨a0, rfl, rfl, rfl, w0⟩ := open_int Tryd.underlying2 (hval 0 2 v0 rfl rfl) h0
  clear hA0 hval0
  simp only [List.append_nil] at hW'
  refine (walk a0 w0 W (of_laid hL)).mono fun e W' ⟨he, hg⟩ => ?_
  subst he
  exact ⟨_, rfl, _, _, _, [], [], [], hW', (trodAll_cons_mk (shut_bool Tryd.underlying4 _) trodAll_mk0), (trodAll_cons_mk (shut_int Tryd.underlying2 w0) trodAll_mk0), rfl, hg.frame _, fun h => by cases h⟩

theorem over : Rows.clockLongRow.holds Tryd.pinned (OpenSpec.ofChange Rows.clockLongSpec) :=
  OpenClaim.holds_of_wide 8 Tryd.f8 rfl rfl rfl rfl rfl rfl rfl ⟨rfl, rfl, rfl, rfl, rfl⟩ rfl rfl rfl rfl rfl (by kernel_rfl) Tryd.func8 (by kernel_rfl)
    (of_decide_eq_true (by kernel_rfl)) (by unfold Func.isWrapper; first | (rw [if_pos (by decide +kernel)]; kernel_rfl) | (rw [if_neg (by decide +kernel)]; exact ⟨rfl, rfl⟩))
    (fun os started H enc _ => lifted os started H enc)

theorem proved : Rows.ClockLongCardSaid :=
  Claim7.holds_tied_plain_at .later [] [.data, .data, .data, .data, .pinned] true (true, "88ee1fa7fa8ffbcbb81922753ccf2f279534cee5e80a48d35296077fb3381ae2") false
    over (fun _ h => by cases h) (by kernel_rfl) (fun _ h => by cases h) clockLong_row_tie rfl ⟨rfl, rfl⟩ (by kernel_rfl) rfl
    (fun f fn hf hfn => by
      obtain rfl : f = 8 := Option.some.inj ((show Tryd.prog.funcNamed Rows.clockLongRow.func = some 8 by kernel_rfl).symm.trans hf) |>.symm
      obtain rfl : fn = Tryd.f8 := (Option.some.inj (Tryd.func8.symm.trans hfn)).symm
      exact ⟨by kernel_rfl, fun j t ht => by
        rw [Tryd.params8] at ht
        have hm : t ∈ [2] := by simpa using Array.mem_of_getElem? ht
        have hall : ([2].all fun u => !Tryd.prog.wantsStandIn u) = true := by kernel_rfl
        exact (show Tryd.prog.wantsStandIn t = false by simpa using List.all_eq_true.1 hall t hm)⟩)
    (by kernel_rfl)
end Go.Proofs.YtcflipkbncpabaaDoor.clockLong
