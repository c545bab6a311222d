/- Which of any two intervals is the longer one, and any one's sign, is what the document says; turned, it is the other way round: SpanOrder returns true for every two intervals. -/
import Derived.Test.YtghfgabajdghiabRows
import Derived.WalkKit
import Derived.ProofKit
import Derived.LaidMore
import Derived.OpenShut
import Derived.ShutString
import Derived.Stop.Joined
import Derived.Lib.LaidTab
import Derived.Lib.SmallJoins
import Derived.Stop.LaidErr
import Derived.Lay
import Derived.SevenTiedAt
import Derived.ChangeMaps5
import Derived.SizedLaws
import Derived.Lib.LaidU8T
import Derived.Shelf.Vars
import Derived.Test.YtghfgabajdghiabLwSpanOrder
import Derived.Test.YtghfgabajdghiabSpN
import Derived.Test.YtghfgabajdghiabSpK
namespace Go.Proofs.Ytghfgabajdghiab.spanOrder
open Go.ChangeShapes Go.WideShapes Go.ChangeAt Go.WideMaps Go.WideElems Go.RowKit
set_option linter.unusedVariables false

theorem own : ownKnob Try.prog.godebug = none := by kernel_rfl

theorem sgnC_neg (a b : Int) : sgnC (-b) (-a) = sgnC a b := by
  rcases Int.lt_trichotomy a b with h | h | h
  · rw [sgnC_lt h, sgnC_lt (by omega)]
  · subst h
    rw [sgnC_eq, sgnC_eq]
  · rw [sgnC_gt h, sgnC_gt (by omega)]
theorem sgnC_swap (a b : Int) : sgnC b a = -sgnC a b := by
  rcases Int.lt_trichotomy a b with h | h | h
  · rw [sgnC_lt h, sgnC_gt h]; rfl
  · subst h
    rw [sgnC_eq]; rfl
  · rw [sgnC_gt h, sgnC_lt h]
theorem lng_neg (m d u : Int) : lng (-m) (-d) (-u) = -lng m d u := by unfold lng; omega
theorem pR_neg {i m d u : Int} (h : pR i m d u = true) : pR (-i) (-m) (-d) (-u) = true := by
  rcases pR_yes h with ⟨rfl, a, b, c, e, f, g⟩ | ⟨q, rfl, rfl, rfl⟩
  · exact pR_in (by omega) (by omega) (by omega) (by omega) (by omega) (by omega)
  · rcases q with rfl | rfl <;> decide
theorem cm_neg {i m d u j n e v : Int} (h : pR i m d u = true) (k : pR j n e v = true) : cmA (-j) (-n) (-e) (-v) (-i) (-m) (-d) (-u) = cmA i m d u j n e v := by
  rcases Int.lt_trichotomy i j with q | q | q
  · rw [cm_lt h k q, cm_lt (pR_neg k) (pR_neg h) (by omega)]
  · subst q
    rw [cm_eq h k, cm_eq (pR_neg k) (pR_neg h), lng_neg, lng_neg, sgnC_neg]
  · rw [cm_gt h k q, cm_gt (pR_neg k) (pR_neg h) (by omega)]
theorem cm_swap {i m d u j n e v : Int} (h : pR i m d u = true) (k : pR j n e v = true) : cmA j n e v i m d u = -cmA i m d u j n e v := by
  rcases Int.lt_trichotomy i j with q | q | q
  · rw [cm_lt h k q, cm_gt k h q]; rfl
  · subst q
    rw [cm_eq h k, cm_eq k h, sgnC_swap]
  · rw [cm_gt h k q, cm_lt k h q]
theorem cm_bd {i m d u j n e v : Int} (h : pR i m d u = true) (k : pR j n e v = true) : -1 ≤ cmA i m d u j n e v ∧ cmA i m d u j n e v ≤ 1 := by
  rcases Int.lt_trichotomy i j with q | q | q
  · rw [cm_lt h k q]; decide
  · subst q
    rw [cm_eq h k]; exact sgnC_bd _ _
  · rw [cm_gt h k q]; decide

theorem walk (i m d u : Int) (wi : (Lit.int .i64 i).wf = true) (wm : (Lit.int .i64 m).wf = true) (wd : (Lit.int .i64 d).wf = true) (wu : (Lit.int .i64 u).wf = true) (j n e v : Int) (wj : (Lit.int .i64 j).wf = true) (wn : (Lit.int .i64 n).wf = true) (we : (Lit.int .i64 e).wf = true) (wv : (Lit.int .i64 v).wf = true) (w : World) :
    Calls Try.prog 5 #[.agg #[.int .i64 i, .int .i64 m, .int .i64 d, .int .i64 u], .agg #[.int .i64 j, .int .i64 n, .int .i64 e, .int .i64 v]] w fun r w' => r = .returned (.bool true) ∧ Below w.heap.size w w' := by
  obtain ⟨m1, m2⟩ := bounds_i64 wm
  obtain ⟨d1, d2⟩ := bounds_i64 wd
  obtain ⟨u1, u2⟩ := bounds_i64 wu
  obtain ⟨n1, n2⟩ := bounds_i64 wn
  obtain ⟨e1, e2⟩ := bounds_i64 we
  obtain ⟨v1, v2⟩ := bounds_i64 wv
  have C1 := fun w => pcmp_any i m d u j n e v u1 u2 v1 v2 w
  have C2 := fun w => rpcmp_any i m d u j n e v u1 u2 v1 v2 w
  have G1 := fun w => psign_any i m d u u1 u2 w
  have G2 := fun w => rpsign_any i m d u u1 u2 w
  have N1 := fun w => pneg_any i m d u m1 m2 d1 d2 u1 u2 w
  have N2 := fun w => pneg_any j n e v n1 n2 e1 e2 v1 v2 w
  have KN := fun w => known_any w
  cases h : pR i m d u
  · rw [show neg5 i m d u = err5 1 from if_neg (by rw [h]; decide)] at N1
    exact core_SpanOrder1 i m d u j n e v _ _ _ _ _ _ _ _ _ _ 1 _ (by decide) C1 C2 G1 G2 N1 N2 KN w
  · rw [show neg5 i m d u = ⟨-i, -m, -d, -u, 0⟩ from if_pos h] at N1
    cases k : pR j n e v
    · rw [show neg5 j n e v = err5 1 from if_neg (by rw [k]; decide)] at N2
      exact core_SpanOrder2 i m d u j n e v _ _ _ _ _ _ _ _ _ _ 1 (by decide) C1 C2 G1 G2 N1 N2 KN w
    · rw [show neg5 j n e v = ⟨-j, -n, -e, -v, 0⟩ from if_pos k] at N2
      have p := pR_yes h
      have q := pR_yes k
      have C3 := fun w => pcmp_any (-j) (-n) (-e) (-v) (-i) (-m) (-d) (-u) (by omega) (by omega) (by omega) (by omega) w
      rw [cm_neg h k] at C3
      have C4 := fun w => pcmp_any j n e v i m d u v1 v2 u1 u2 w
      rw [cm_swap h k] at C4
      obtain ⟨b1, b2⟩ := cm_bd h k
      exact core_SpanOrder3 i m d u j n e v _ _ _ _ _ _ _ _ _ _ b1 b2 C1 C2 G1 G2 N1 N2 C3 C4 KN w

set_option maxRecDepth 100000 in
theorem lifted (os : Os) (started : os.Started) (H : Type) (enc : TypeId × Value → H) :
    ReturnsInHanded {} Try.checked os 5 .any (Rows.spanOrderSpec.pre6 enc Try.prog Try.f5 Rows.spanOrderRow.domain false) (Rows.spanOrderSpec.post enc Try.prog Try.f5 false true false false) := by
  refine returnsInHanded_of_change_sized (C := Try.checked) own started (by kernel_rfl) Try.func5
    (ChangeSpec.witness6 (enc := enc) (C := Try.checked) false ⟨#[], #[.agg #[.int .i64 0, .int .i64 0, .int .i64 0, .int .i64 0], .agg #[.int .i64 0, .int .i64 0, .int .i64 0, .int .i64 0]], []⟩ 8 (by kernel_rfl) (by kernel_rfl) (by kernel_rfl) (by kernel_rfl)) ?_
  intro W base args ds gs before hval0 hW hcnd hsz0 _
  have hval : ∀ (j : Nat) t v, Try.f5.params[j]? = some t → args[j]? = some v → Value.okWide Try.prog W .any base t v := hval0
  have hW' := hW
  obtain ⟨p, q, hA0, hV, rfl, hfz, hnd⟩ := hW
  have hA : DataW.TrodAll enc Try.prog W 0 (fun _ => true) true Try.f5.params.toList args.toList ds p := hA0
  rw [Try.params5] at hA hval
  obtain ⟨v0, vs0, d0, ds0, p0, q0, ha0, rfl, rfl, h0, r0⟩ := trodAll_cons hA
  obtain ⟨v1, vs1, d1, ds1, p1, q1, ha1, rfl, rfl, h1, r1⟩ := trodAll_cons r0
  obtain ⟨rfl, rfl, rfl⟩ := trodAll_nil r1
  subst ha1
  obtain rfl : args = #[v0, v1] := by cases args; simp_all
  obtain ⟨rfl, rfl⟩ := trodVars_none hV
  obtain ⟨c0_0, c0_1, c0_2, c0_3, y0_0, y0_1, y0_2, y0_3, m0, rfl, rfl, rfl, hy0_0, hy0_1, hy0_2, hy0_3⟩ := Joins.open_agg4 Try.underlying23 (by kernel_rfl) (show Try.prog.cellsOf 23 = 4 by kernel_rfl) (hval 0 23 v0 rfl rfl) h0
  obtain ⟨n0_0, i0_0, rfl, wn0_0⟩ := DataW.trod_int Try.underlying3 hy0_0
  simp at i0_0
  subst i0_0
  obtain ⟨n0_1, i0_1, rfl, wn0_1⟩ := DataW.trod_int Try.underlying2 hy0_1
  simp at i0_1
  subst i0_1
  obtain ⟨n0_2, i0_2, rfl, wn0_2⟩ := DataW.trod_int Try.underlying2 hy0_2
  simp at i0_2
  subst i0_2
  obtain ⟨n0_3, i0_3, rfl, wn0_3⟩ := DataW.trod_int Try.underlying2 hy0_3
  simp at i0_3
  subst i0_3
  obtain ⟨c1_0, c1_1, c1_2, c1_3, y1_0, y1_1, y1_2, y1_3, m1, rfl, rfl, rfl, hy1_0, hy1_1, hy1_2, hy1_3⟩ := Joins.open_agg4 Try.underlying23 (by kernel_rfl) (show Try.prog.cellsOf 23 = 4 by kernel_rfl) (hval 1 23 v1 rfl rfl) h1
  obtain ⟨n1_0, i1_0, rfl, wn1_0⟩ := DataW.trod_int Try.underlying3 hy1_0
  simp at i1_0
  subst i1_0
  obtain ⟨n1_1, i1_1, rfl, wn1_1⟩ := DataW.trod_int Try.underlying2 hy1_1
  simp at i1_1
  subst i1_1
  obtain ⟨n1_2, i1_2, rfl, wn1_2⟩ := DataW.trod_int Try.underlying2 hy1_2
  simp at i1_2
  subst i1_2
  obtain ⟨n1_3, i1_3, rfl, wn1_3⟩ := DataW.trod_int Try.underlying2 hy1_3
  simp at i1_3
  subst i1_3
  clear hA0 hval0
  simp only [List.append_nil] at hW'
  refine (walk n0_0 n0_1 n0_2 n0_3 wn0_0 wn0_1 wn0_2 wn0_3 n1_0 n1_1 n1_2 n1_3 wn1_0 wn1_1 wn1_2 wn1_3 W).mono fun e W' ⟨he, hg⟩ => ?_
  subst he
  exact ⟨_, rfl, _, _, _, [], [], [], hW', (trodAll_cons_mk (shut_bool Try.underlying4 _) trodAll_mk0), (trodAll_cons_mk ((Joins.shut_agg4 (y0 := (.lit (.int .i64 n0_0), [])) (y1 := (.lit (.int .i64 n0_1), [])) (y2 := (.lit (.int .i64 n0_2), [])) (y3 := (.lit (.int .i64 n0_3), [])) Try.underlying23 (by kernel_rfl) (show Try.prog.cellsOf 23 = 4 by kernel_rfl) ⟨1, by simp [DataW.trod, Try.underlying3, wn0_0]⟩ ⟨1, by simp [DataW.trod, Try.underlying2, wn0_1]⟩ ⟨1, by simp [DataW.trod, Try.underlying2, wn0_2]⟩ ⟨1, by simp [DataW.trod, Try.underlying2, wn0_3]⟩)) (trodAll_cons_mk ((Joins.shut_agg4 (y0 := (.lit (.int .i64 n1_0), [])) (y1 := (.lit (.int .i64 n1_1), [])) (y2 := (.lit (.int .i64 n1_2), [])) (y3 := (.lit (.int .i64 n1_3), [])) Try.underlying23 (by kernel_rfl) (show Try.prog.cellsOf 23 = 4 by kernel_rfl) ⟨1, by simp [DataW.trod, Try.underlying3, wn1_0]⟩ ⟨1, by simp [DataW.trod, Try.underlying2, wn1_1]⟩ ⟨1, by simp [DataW.trod, Try.underlying2, wn1_2]⟩ ⟨1, by simp [DataW.trod, Try.underlying2, wn1_3]⟩)) trodAll_mk0)), rfl, hg.frame _, fun h => by cases h⟩

theorem over : Rows.spanOrderRow.holds Try.pinned (OpenSpec.ofChange Rows.spanOrderSpec) :=
  OpenClaim.holds_of_wide 5 Try.f5 rfl rfl rfl rfl rfl rfl rfl ⟨rfl, rfl, rfl, rfl, rfl⟩ rfl rfl rfl rfl rfl (by kernel_rfl) Try.func5 (by kernel_rfl)
    (of_decide_eq_true (by kernel_rfl)) (by unfold Func.isWrapper; first | (rw [if_pos (by decide +kernel)]; kernel_rfl) | (rw [if_neg (by decide +kernel)]; exact ⟨rfl, rfl⟩))
    (fun os started H enc _ => lifted os started H enc)

theorem proved : Rows.SpanOrderSaid :=
  over

end Go.Proofs.Ytghfgabajdghiab.spanOrder
