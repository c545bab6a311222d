/- Of two numbers the one less the other is the other way round but for its sign, and with nothing added a number is the same: DecApart returns true for every two numbers, where the table of the powers of ten is as the program's text lays it. -/
import Derived.Test.YtcflipkbncpababDoorRows
import Derived.Test.YtcflipkbncpababDoorCards
import Derived.Test.YtcflipkbncpababDoorTie
import Derived.WalkKit
import Derived.ProofKit
import Derived.LaidMore
import Derived.OpenShut
import Derived.ShutString
import Derived.Stop.Joined
import Derived.Lib.LaidTab
import Derived.Lib.SmallJoins
import Derived.Stop.LaidErr
import Derived.SevenTiedAt
import Derived.Test.YtcflipkbncpababDoorLwDecApart
namespace Go.Proofs.YtcflipkbncpababDoor.decApart
open Go.ChangeShapes Go.WideShapes Go.ChangeAt Go.WideMaps Go.WideElems Go.RowKit
set_option linter.unusedVariables false

theorem own : ownKnob Tryd.prog.godebug = none := by kernel_rfl

theorem gTab : Tryd.prog.globalNamed "internal/strconv.uint64pow10" = some 0 := by kernel_rfl
theorem tTab : (Tryd.prog.globals[0]?).map (·.type) = some 117 := by kernel_rfl
theorem uTab : Tryd.prog.underlying 117 = some (.array 20 64) := by kernel_rfl
/-- what the listed variable gives the walks: the powers of ten. -/
theorem of_laid {W : World} (h : laidMetH Tryd.prog Rows.decApartRow.laid W) : Tab W := by
  rw [MakeChecks.laidMetH_plain _ _ _ (by kernel_rfl)] at h
  exact Lib.tabIs_of_head (k := .u64) (zs := Lib.pow10Tab) (rest := []) gTab tTab uTab Tryd.underlying64 (by kernel_rfl) (by kernel_rfl) h.tail.tail

theorem door_met (os : Os) (args : Array Value) : laidMetH Tryd.prog Rows.decApartRow.laid ((World.doorLaid Tryd.prog 400 os).forCall (fun _ _ => 0) ⟨#[], args, []⟩).memory :=
  laidMetH_of_parts3 (fuel := 8) (laidMet_of_run' 8 (by kernel_rfl) (by kernel_rfl)) (by kernel_rfl) (by kernel_rfl)

theorem la_comm (xn xs yn ys : Int) : la xn xs yn ys = lb yn ys xn xs := by unfold la lb; rw [Int.max_comm]
theorem wf_bd {a : Int} (h : (Lit.int .i64 a).wf = true) : -9223372036854775808 ≤ a ∧ a ≤ 9223372036854775807 := by
  have e : IntKind.i64.min = -9223372036854775808 := by decide
  simpa [Lit.wf, e] using h
theorem sub_ok {xn xs yn ys : Int} (h : subE xn xs yn ys = 0) : rt xs = true ∧ smE (la xn xs yn ys - lb xn xs yn ys) = 0 := by
  unfold subE at h
  split at h
  · have k : levE xn xs yn ys = 0 := by assumption
    unfold levE at k
    split at k
    · rename_i hr; exact ⟨hr.1, h⟩
    · exact absurd k (by decide)
  · exact absurd h (by assumption)
theorem sub_one {xn xs yn ys : Int} (h : rt xs = false) : subE xn xs yn ys = 1 := by
  have k : levE xn xs yn ys = 1 := by unfold levE; rw [if_neg (fun q => by rw [h] at q; exact absurd q.1 (by decide))]
  unfold subE
  rw [k]; rfl
theorem add_self (xn xs : Int) (h : rt xs = true) (h1 : -9223372036854775808 ≤ xn) (h2 : xn ≤ 9223372036854775807) : la xn xs 0 xs + lb xn xs 0 xs = xn ∧ addE xn xs 0 xs = 0 := by
  have e1 : la xn xs 0 xs = xn := by unfold la; rw [Int.max_self, Int.sub_self]; exact Int.mul_one _
  have e2 : lb xn xs 0 xs = 0 := by unfold lb; exact Int.zero_mul _
  have e3 : levE xn xs 0 xs = 0 := by
    unfold levE
    rw [if_pos ⟨h, h⟩, e1, e2, if_pos ⟨smE_in h1 h2, smE_in (by decide) (by decide)⟩]
  refine ⟨by rw [e1, e2]; exact Int.add_zero _, ?_⟩
  unfold addE
  rw [if_pos e3, e1, e2, Int.add_zero]
  exact smE_in h1 h2

theorem walk (xn xs : Int) (wn : (Lit.int .i64 xn).wf = true) (ws : (Lit.int .i64 xs).wf = true) (yn ys : Int) (wm : (Lit.int .i64 yn).wf = true) (wt : (Lit.int .i64 ys).wf = true) (w : World) (hT : Tab w) :
    Calls Tryd.prog 8 #[.agg #[.int .i64 xn, .int .i64 xs], .agg #[.int .i64 yn, .int .i64 ys]] w fun e w' => e = .returned (.bool true) ∧ Below w.heap.size w w' := by
  obtain ⟨x1, x2⟩ := wf_bd wn
  obtain ⟨y1, y2⟩ := wf_bd wm
  have S1 := dsub_any xn xs yn ys x1 x2 y1 y2
  have S2 := dsub_any yn ys xn xs y1 y2 x1 x2
  rw [Int.max_comm ys xs] at S2
  have HX := given_any xn xs
  have HY := given_any yn ys
  cases hr : rt xs
  · have e1 : subE xn xs yn ys = 1 := sub_one hr
    rw [e1] at S1
    exact core_DecApart4 xn xs yn ys _ _ _ _ _ HX HY S1 S2 (rright_no xn xs hr) known_any w hT
  · have RX := rright_yes xn xs hr
    have TK := taken_any xn xs
    have AZ := dadd_any xn xs 0 xs x1 x2 (by decide) (by decide)
    obtain ⟨z1, z2⟩ := add_self xn xs hr x1 x2
    rw [z1, z2, Int.max_self] at AZ
    by_cases e1 : subE xn xs yn ys = 0
    · rw [e1] at S1
      by_cases e2 : subE yn ys xn xs = 0
      · rw [e2] at S2
        obtain ⟨⟨l1, l2⟩, _⟩ := sm_ok (sub_ok e1).2
        obtain ⟨⟨l3, l4⟩, _⟩ := sm_ok (sub_ok e2).2
        have q1 := la_comm yn ys xn xs
        have q2 := la_comm xn xs yn ys
        exact core_DecApart1 xn xs yn ys _ _ _ (by
          show IntKind.i64.wrap (-(la yn ys xn xs - lb yn ys xn xs)) = la xn xs yn ys - lb xn xs yn ys
          rw [IntKind.wrap_i64, q1, ← q2]; omega) HX HY S1 S2 RX AZ TK known_any w hT
      · exact core_DecApart2 xn xs yn ys _ _ _ _ _ (by rw [beq_eq_false_iff_ne]; exact e2) HX HY S1 S2 RX AZ TK known_any w hT
    · exact core_DecApart3 xn xs yn ys _ _ _ _ _ _ (by rw [beq_eq_false_iff_ne]; exact e1) HX HY S1 S2 RX AZ TK known_any w hT

set_option maxRecDepth 100000 in
theorem lifted (os : Os) (started : os.Started) (H : Type) (enc : TypeId × Value → H) :
    ReturnsInHanded {} Tryd.checked os 8 .any (fun w args => (Rows.decApartSpec.pre enc Tryd.prog Tryd.f8 [] false w args ∧ laidMetH Tryd.prog Rows.decApartRow.laid w) ∧ sizedMet enc Tryd.prog Tryd.f8 (OpenSpec.ofChange Rows.decApartSpec) false w args)
      (Rows.decApartSpec.post enc Tryd.prog Tryd.f8 false true false false) := by
  refine returnsInHanded_of_change_and (C := Tryd.checked) (X := fun w _ => laidMetH Tryd.prog Rows.decApartRow.laid w) (fun _ _ _ hh h => h.of_heap hh) own started (by kernel_rfl) Tryd.func8
    (ChangeSpec.witness_shaped (enc := enc) (C := Tryd.checked) (os := os) (X := fun w _ => laidMetH Tryd.prog Rows.decApartRow.laid w) false (World.doorLaid Tryd.prog 400 os) #[.agg #[.int .i64 0, .int .i64 0], .agg #[.int .i64 0, .int .i64 0]] 8 rfl (World.shaped_of_RefB (by kernel_rfl) (by kernel_rfl)) (by kernel_rfl) (by kernel_rfl) (by kernel_rfl) (door_met os _)) ?_
  intro W base args ds gs before hval0 hW _ _ hL _
  have hval : ∀ (j : Nat) t v, Tryd.f8.params[j]? = some t → args[j]? = some v → Value.okWide Tryd.prog W .any base t v := hval0
  have hW' := hW
  obtain ⟨p, q, hA0, hV, rfl, hfz, hnd⟩ := hW
  have hA : DataW.TrodAll enc Tryd.prog W 0 (fun _ => true) true Tryd.f8.params.toList args.toList ds p := hA0
  rw [Tryd.params8] at hA hval
  obtain ⟨v0, vs0, d0, ds0, p0, q0, ha0, rfl, rfl, h0, r0⟩ := trodAll_cons hA
  obtain ⟨v1, vs1, d1, ds1, p1, q1, ha1, rfl, rfl, h1, r1⟩ := trodAll_cons r0
  obtain ⟨rfl, rfl, rfl⟩ := trodAll_nil r1
  subst ha1
  obtain rfl : args = #[v0, v1] := by cases args; simp_all
  obtain ⟨rfl, rfl⟩ := trodVars_none hV
  obtain ⟨c0, e0, y0, z0, m0, rfl, rfl, rfl, hy0, hz0⟩ := Joins.open_agg2 Tryd.underlying23 (by kernel_rfl) (show Tryd.prog.cellsOf 23 = 2 by kernel_rfl) (hval 0 23 v0 rfl rfl) h0
  obtain ⟨n0, i0, rfl, wn0⟩ := DataW.trod_int Tryd.underlying2 hy0
  obtain ⟨s0, k0, rfl, ws0⟩ := DataW.trod_int Tryd.underlying3 hz0
  simp at i0 k0
  subst i0 k0
  obtain ⟨c1, e1, y1, z1, m1, rfl, rfl, rfl, hy1, hz1⟩ := Joins.open_agg2 Tryd.underlying23 (by kernel_rfl) (show Tryd.prog.cellsOf 23 = 2 by kernel_rfl) (hval 1 23 v1 rfl rfl) h1
  obtain ⟨n1, i1, rfl, wn1⟩ := DataW.trod_int Tryd.underlying2 hy1
  obtain ⟨s1, k1, rfl, ws1⟩ := DataW.trod_int Tryd.underlying3 hz1
  simp at i1 k1
  subst i1 k1
  clear hA0 hval0
  simp only [List.append_nil] at hW'
  refine (walk n0 s0 wn0 ws0 n1 s1 wn1 ws1 W (of_laid hL)).mono fun e W' ⟨he, hg⟩ => ?_
  subst he
  exact ⟨_, rfl, _, _, _, [], [], [], hW', (trodAll_cons_mk (shut_bool Tryd.underlying4 _) trodAll_mk0), (trodAll_cons_mk ((Joins.shut_agg2 (y0 := (.lit (.int .i64 n0), [])) (y1 := (.lit (.int .i64 s0), [])) Tryd.underlying23 (by kernel_rfl) (show Tryd.prog.cellsOf 23 = 2 by kernel_rfl) ⟨1, by simp [DataW.trod, Tryd.underlying2, wn0]⟩ ⟨1, by simp [DataW.trod, Tryd.underlying3, ws0]⟩)) (trodAll_cons_mk ((Joins.shut_agg2 (y0 := (.lit (.int .i64 n1), [])) (y1 := (.lit (.int .i64 s1), [])) Tryd.underlying23 (by kernel_rfl) (show Tryd.prog.cellsOf 23 = 2 by kernel_rfl) ⟨1, by simp [DataW.trod, Tryd.underlying2, wn1]⟩ ⟨1, by simp [DataW.trod, Tryd.underlying3, ws1]⟩)) trodAll_mk0)), rfl, hg.frame _, fun h => by cases h⟩

theorem over : Rows.decApartRow.holds Tryd.pinned (OpenSpec.ofChange Rows.decApartSpec) :=
  OpenClaim.holds_of_wide 8 Tryd.f8 rfl rfl rfl rfl rfl rfl rfl ⟨rfl, rfl, rfl, rfl, rfl⟩ rfl rfl rfl rfl rfl (by kernel_rfl) Tryd.func8 (by kernel_rfl)
    (of_decide_eq_true (by kernel_rfl)) (by unfold Func.isWrapper; first | (rw [if_pos (by decide +kernel)]; kernel_rfl) | (rw [if_neg (by decide +kernel)]; exact ⟨rfl, rfl⟩))
    (fun os started H enc _ => lifted os started H enc)

theorem proved : Rows.DecApartCardSaid :=
  Claim7.holds_tied_plain_at .later [] [.data, .data, .data] true (true, "3dc57d1e12b6c6e11f52f7d485e3f07c7d7f155988958e43c2cd4d4e34d8f154") false
    over (fun _ h => by cases h) (by kernel_rfl) (fun _ h => by cases h) decApart_row_tie rfl ⟨rfl, rfl⟩ (by kernel_rfl) rfl
    (fun f fn hf hfn => by
      obtain rfl : f = 8 := Option.some.inj ((show Tryd.prog.funcNamed Rows.decApartRow.func = some 8 by kernel_rfl).symm.trans hf) |>.symm
      obtain rfl : fn = Tryd.f8 := (Option.some.inj (Tryd.func8.symm.trans hfn)).symm
      exact ⟨by kernel_rfl, fun j t ht => by
        rw [Tryd.params8] at ht
        have hm : t ∈ [23] := by simpa using Array.mem_of_getElem? ht
        have hall : ([23].all fun u => !Tryd.prog.wantsStandIn u) = true := by kernel_rfl
        exact (show Tryd.prog.wantsStandIn t = false by simpa using List.all_eq_true.1 hall t hm)⟩)
    (by kernel_rfl)
end Go.Proofs.YtcflipkbncpababDoor.decApart
