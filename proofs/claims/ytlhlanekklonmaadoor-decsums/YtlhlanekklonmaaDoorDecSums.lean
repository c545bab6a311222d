/- The sum, the difference and the product of any two numbers, and which is the lesser one: DecSums returns true for every two numbers, where the table of the powers of ten is as the program's text lays it. -/
import Derived.Test.YtlhlanekklonmaaDoorRows
import Derived.Test.YtlhlanekklonmaaDoorCards
import Derived.Test.YtlhlanekklonmaaDoorTie
import Derived.WalkKit
import Derived.ProofKit
import Derived.LaidMore
import Derived.OpenShut
import Derived.ShutString
import Derived.Stop.Joined
import Derived.Lib.LaidTab
import Derived.Lib.SmallJoins
import Derived.Stop.LaidErr
import Derived.Lay
import Derived.SevenTiedAt
import Derived.ChangeMaps5
import Derived.SizedLaws
import Derived.Lib.LaidU8T
import Derived.Test.YtlhlanekklonmaaDoorLwDecSums
namespace Go.Proofs.YtlhlanekklonmaaDoor.decSums
open Go.ChangeShapes Go.WideShapes Go.ChangeAt Go.WideMaps Go.WideElems Go.RowKit
set_option linter.unusedVariables false

theorem own : ownKnob Tryd.prog.godebug = none := by kernel_rfl

theorem gTab : Tryd.prog.globalNamed "internal/strconv.uint64pow10" = some 0 := by kernel_rfl
theorem tTab : (Tryd.prog.globals[0]?).map (·.type) = some 140 := by kernel_rfl
theorem uTab : Tryd.prog.underlying 140 = some (.array 20 60) := by kernel_rfl
/-- what the listed variable gives the walks: the powers of ten. -/
theorem of_laid {W : World} (h : laidMetH Tryd.prog Rows.decSumsRow.laid W) : Tab W := by
  rw [MakeChecks.laidMetH_plain _ _ _ (by kernel_rfl)] at h
  exact Lib.tabIs_of_head (k := .u64) (zs := Lib.pow10Tab) (rest := []) gTab tTab uTab Tryd.underlying60 (by kernel_rfl) (by kernel_rfl) h.tail.tail

theorem door_met (os : Os) (args : Array Value) : laidMetH Tryd.prog Rows.decSumsRow.laid (((World.doorLaid Tryd.prog 400 os)).forCall (fun _ _ => 0) ⟨#[], args, []⟩).memory :=
  laidMetH_of_parts3 (fuel := 8) (laidMet_of_run' 8 (by kernel_rfl) (by kernel_rfl)) (by kernel_rfl) (by kernel_rfl)

theorem wf_bd {a : Int} (h : (Lit.int .i64 a).wf = true) : -9223372036854775808 ≤ a ∧ a ≤ 9223372036854775807 := by
  have e : IntKind.i64.min = -9223372036854775808 := by decide
  simpa [Lit.wf, e] using h

theorem walk (xn xs : Int) (wn : (Lit.int .i64 xn).wf = true) (ws : (Lit.int .i64 xs).wf = true) (yn ys : Int) (wm : (Lit.int .i64 yn).wf = true) (wt : (Lit.int .i64 ys).wf = true) (w : World) (hT : Tab w) :
    Calls Tryd.prog 6 #[.agg #[.int .i64 xn, .int .i64 xs], .agg #[.int .i64 yn, .int .i64 ys]] w fun e w' => e = .returned (.bool true) ∧ Below w.heap.size w w' := by
  obtain ⟨x1, x2⟩ := wf_bd wn
  obtain ⟨y1, y2⟩ := wf_bd wm
  have DA := dadd_any xn xs yn ys x1 x2 y1 y2
  have EA := eadd_any xn xs yn ys x1 x2 y1 y2
  have DS := dsub_any xn xs yn ys x1 x2 y1 y2
  have ES := esub_any xn xs yn ys x1 x2 y1 y2
  have DM := dmul_any xn xs yn ys x1 x2 y1 y2
  have EM := emul_any xn xs yn ys x1 x2 y1 y2
  have DC := dcmp_any xn xs yn ys x1 x2 y1 y2
  have EC := ecmp_any xn xs yn ys x1 x2 y1 y2
  cases hx : rt xs
  · exact core_DecSums xn xs yn ys _ _ _ _ _ _ _ _ _ _ _ (given_any xn xs) (given_any yn ys) DA EA DS ES DM EM (taken_any _ _) (taken_any _ _) (taken_any _ _) DC EC (dright_no xn xs hx) (eright_no xn xs hx) known_any w hT
  · exact core_DecSums xn xs yn ys _ _ _ _ _ _ _ _ _ _ _ (given_any xn xs) (given_any yn ys) DA EA DS ES DM EM (taken_any _ _) (taken_any _ _) (taken_any _ _) DC EC (dright_yes xn xs hx) (eright_yes xn xs hx) known_any w hT

set_option maxRecDepth 100000 in
theorem lifted (os : Os) (started : os.Started) (H : Type) (enc : TypeId × Value → H) :
    ReturnsInHanded {} Tryd.checked os 6 .any (fun w args => (Rows.decSumsSpec.pre enc Tryd.prog Tryd.f6 [] false w args ∧ laidMetH Tryd.prog Rows.decSumsRow.laid w) ∧ sizedMet enc Tryd.prog Tryd.f6 (OpenSpec.ofChange Rows.decSumsSpec) false w args)
      (Rows.decSumsSpec.post enc Tryd.prog Tryd.f6 false true false false) := by
  refine returnsInHanded_of_change_and (C := Tryd.checked) (X := fun w _ => laidMetH Tryd.prog Rows.decSumsRow.laid w) (fun _ _ _ hh h => h.of_heap hh) own started (by kernel_rfl) Tryd.func6
    (ChangeSpec.witness_shaped (enc := enc) (C := Tryd.checked) (os := os) (X := fun w _ => laidMetH Tryd.prog Rows.decSumsRow.laid w) false (World.doorLaid Tryd.prog 400 os) #[.agg #[.int .i64 0, .int .i64 0], .agg #[.int .i64 0, .int .i64 0]] 8 rfl (World.shaped_of_RefB (by kernel_rfl) (by kernel_rfl)) (by kernel_rfl) (by kernel_rfl) (by kernel_rfl) (door_met os _)) ?_
  intro W base args ds gs before hval0 hW _ _ hL _
  have hval : ∀ (j : Nat) t v, Tryd.f6.params[j]? = some t → args[j]? = some v → Value.okWide Tryd.prog W .any base t v := hval0
  have hW' := hW
  obtain ⟨p, q, hA0, hV, rfl, hfz, hnd⟩ := hW
  have hA : DataW.TrodAll enc Tryd.prog W 0 (fun _ => true) true Tryd.f6.params.toList args.toList ds p := hA0
  rw [Tryd.params6] at hA hval
  obtain ⟨v0, vs0, d0, ds0, p0, q0, ha0, rfl, rfl, h0, r0⟩ := trodAll_cons hA
  obtain ⟨v1, vs1, d1, ds1, p1, q1, ha1, rfl, rfl, h1, r1⟩ := trodAll_cons r0
  obtain ⟨rfl, rfl, rfl⟩ := trodAll_nil r1
  subst ha1
  obtain rfl : args = #[v0, v1] := by cases args; simp_all
  obtain ⟨rfl, rfl⟩ := trodVars_none hV
  obtain ⟨c0, e0, y0, z0, m0, rfl, rfl, rfl, hy0, hz0⟩ := Joins.open_agg2 Tryd.underlying33 (by kernel_rfl) (show Tryd.prog.cellsOf 33 = 2 by kernel_rfl) (hval 0 33 v0 rfl rfl) h0
  obtain ⟨n0, i0, rfl, wn0⟩ := DataW.trod_int Tryd.underlying2 hy0
  obtain ⟨s0, k0, rfl, ws0⟩ := DataW.trod_int Tryd.underlying3 hz0
  simp at i0 k0
  subst i0 k0
  obtain ⟨c1, e1, y1, z1, m1, rfl, rfl, rfl, hy1, hz1⟩ := Joins.open_agg2 Tryd.underlying33 (by kernel_rfl) (show Tryd.prog.cellsOf 33 = 2 by kernel_rfl) (hval 1 33 v1 rfl rfl) h1
  obtain ⟨n1, i1, rfl, wn1⟩ := DataW.trod_int Tryd.underlying2 hy1
  obtain ⟨s1, k1, rfl, ws1⟩ := DataW.trod_int Tryd.underlying3 hz1
  simp at i1 k1
  subst i1 k1
  clear hA0 hval0
  simp only [List.append_nil] at hW'
  refine (walk n0 s0 wn0 ws0 n1 s1 wn1 ws1 W (of_laid hL)).mono fun e W' ⟨he, hg⟩ => ?_
  subst he
  exact ⟨_, rfl, _, _, _, [], [], [], hW', (trodAll_cons_mk (shut_bool Tryd.underlying4 _) trodAll_mk0), (trodAll_cons_mk ((Joins.shut_agg2 (y0 := (.lit (.int .i64 n0), [])) (y1 := (.lit (.int .i64 s0), [])) Tryd.underlying33 (by kernel_rfl) (show Tryd.prog.cellsOf 33 = 2 by kernel_rfl) ⟨1, by simp [DataW.trod, Tryd.underlying2, wn0]⟩ ⟨1, by simp [DataW.trod, Tryd.underlying3, ws0]⟩)) (trodAll_cons_mk ((Joins.shut_agg2 (y0 := (.lit (.int .i64 n1), [])) (y1 := (.lit (.int .i64 s1), [])) Tryd.underlying33 (by kernel_rfl) (show Tryd.prog.cellsOf 33 = 2 by kernel_rfl) ⟨1, by simp [DataW.trod, Tryd.underlying2, wn1]⟩ ⟨1, by simp [DataW.trod, Tryd.underlying3, ws1]⟩)) trodAll_mk0)), rfl, hg.frame _, fun h => by cases h⟩

theorem over : Rows.decSumsRow.holds Tryd.pinned (OpenSpec.ofChange Rows.decSumsSpec) :=
  OpenClaim.holds_of_wide 6 Tryd.f6 rfl rfl rfl rfl rfl rfl rfl ⟨rfl, rfl, rfl, rfl, rfl⟩ rfl rfl rfl rfl rfl (by kernel_rfl) Tryd.func6 (by kernel_rfl)
    (of_decide_eq_true (by kernel_rfl)) (by unfold Func.isWrapper; first | (rw [if_pos (by decide +kernel)]; kernel_rfl) | (rw [if_neg (by decide +kernel)]; exact ⟨rfl, rfl⟩))
    (fun os started H enc _ => lifted os started H enc)

theorem proved : Rows.DecSumsCardSaid :=
  Claim7.holds_tied_plain_at .later [] [.data, .data, .data] true (true, "e996b4679f1030e1e5afb07066812dc384830c3b091e0d554c5384a878fa23f5") false
    over (fun _ h => by cases h) (by kernel_rfl) (fun _ h => by cases h) decSums_row_tie rfl ⟨rfl, rfl⟩ (by kernel_rfl) rfl
    (fun f fn hf hfn => by
      obtain rfl : f = 6 := Option.some.inj ((show Tryd.prog.funcNamed Rows.decSumsRow.func = some 6 by kernel_rfl).symm.trans hf) |>.symm
      obtain rfl : fn = Tryd.f6 := (Option.some.inj (Tryd.func6.symm.trans hfn)).symm
      exact ⟨by kernel_rfl, fun j t ht => by
        rw [Tryd.params6] at ht
        have hm : t ∈ [33] := by simpa using Array.mem_of_getElem? ht
        have hall : ([33].all fun u => !Tryd.prog.wantsStandIn u) = true := by kernel_rfl
        exact (show Tryd.prog.wantsStandIn t = false by simpa using List.all_eq_true.1 hall t hm)⟩)
    (by kernel_rfl)
end Go.Proofs.YtlhlanekklonmaaDoor.decSums
