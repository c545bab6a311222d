/- A sum is the same either way round, and less the one it is the other: SpanBack returns true for every two intervals. -/
import Derived.Test.YtghfgabajdghiabRows
import Derived.WalkKit
import Derived.ProofKit
import Derived.LaidMore
import Derived.OpenShut
import Derived.ShutString
import Derived.Stop.Joined
import Derived.Lib.LaidTab
import Derived.Lib.SmallJoins
import Derived.Stop.LaidErr
import Derived.Lay
import Derived.SevenTiedAt
import Derived.ChangeMaps5
import Derived.SizedLaws
import Derived.Lib.LaidU8T
import Derived.Shelf.Vars
import Derived.Test.YtghfgabajdghiabLwSpanBack
import Derived.Test.YtghfgabajdghiabSpN
import Derived.Test.YtghfgabajdghiabSpEb
namespace Go.Proofs.Ytghfgabajdghiab.spanBack
open Go.ChangeShapes Go.WideShapes Go.ChangeAt Go.WideMaps Go.WideElems Go.RowKit
set_option linter.unusedVariables false

theorem own : ownKnob Try.prog.godebug = none := by kernel_rfl

theorem add_no {i m d u j n e v : Int} (h : ¬ (pR i m d u = true ∧ pR j n e v = true)) : add5 i m d u j n e v = err5 1 := if_neg h
theorem add_opp {i m d u j n e v : Int} (h : pR i m d u = true ∧ pR j n e v = true) (h0 : i ≠ 0) (o : j = -i) : add5 i m d u j n e v = err5 10 := by unfold add5; rw [if_pos h, if_pos h0, if_pos o]
theorem add_a {i m d u j n e v : Int} (h : pR i m d u = true ∧ pR j n e v = true) (h0 : i ≠ 0) (o : ¬ j = -i) : add5 i m d u j n e v = ⟨i, m, d, u, 0⟩ := by unfold add5; rw [if_pos h, if_pos h0, if_neg o]
theorem add_b {m d u j n e v : Int} (h : pR 0 m d u = true ∧ pR j n e v = true) (h0 : j ≠ 0) : add5 0 m d u j n e v = ⟨j, n, e, v, 0⟩ := by unfold add5; rw [if_pos h, if_neg (show ¬ (0 : Int) ≠ 0 by decide), if_pos h0]
theorem add_p {m d u n e v : Int} (h : pR 0 m d u = true ∧ pR 0 n e v = true) : add5 0 m d u 0 n e v = parts5 (m + n) 0 (d + e) 0 (smV (u + v)) (smE (u + v)) := by unfold add5; rw [if_pos h, if_neg (show ¬ (0 : Int) ≠ 0 by decide), if_neg (show ¬ (0 : Int) ≠ 0 by decide)]
theorem add_comm5 (i m d u j n e v : Int) : add5 i m d u j n e v = add5 j n e v i m d u := by
  by_cases h : pR i m d u = true ∧ pR j n e v = true
  · have p := pR_yes h.1
    have q := pR_yes h.2
    by_cases h0 : i = 0
    · subst h0
      by_cases k0 : j = 0
      · subst k0
        rw [add_p h, add_p h.symm, Int.add_comm m n, Int.add_comm d e, Int.add_comm u v]
      · rw [add_b h k0, add_a h.symm k0 (by omega)]
    · by_cases k0 : j = 0
      · subst k0
        rw [add_a h h0 (by omega), add_b h.symm h0]
      · by_cases o : j = -i
        · rw [add_opp h h0 o, add_opp h.symm k0 (by omega)]
        · rw [add_a h h0 o, add_a h.symm k0 (by omega)]
          obtain ⟨a, rfl, rfl, rfl⟩ := p.resolve_left (fun z => h0 z.1)
          obtain ⟨b, rfl, rfl, rfl⟩ := q.resolve_left (fun z => k0 z.1)
          rw [show i = j by omega]
  · rw [add_no h, add_no (fun k => h k.symm)]
theorem v5_0 {X : R5} (h : X.e = 0) : v5 X = .tuple #[.agg #[.int .i64 X.i, .int .i64 X.m, .int .i64 X.d, .int .i64 X.u], .int .i64 0] := by unfold v5; rw [h]
theorem sm_zero {x : Int} (h : smE x = 0) : smV x = x ∧ -9223372036854775808 ≤ x ∧ x ≤ 9223372036854775807 := by
  by_cases k : -9223372036854775808 ≤ x ∧ x ≤ 9223372036854775807
  · exact ⟨smV_in k.1 k.2, k⟩
  · rw [smE_out (by omega)] at h; exact absurd h (by decide)
theorem parts_zero {a b c e f g : Int} (h : (parts5 a e b f c g).e = 0) : e = 0 ∧ f = 0 ∧ g = 0 ∧ pR 0 a b c = true ∧ parts5 a e b f c g = ⟨0, a, b, c, 0⟩ := by
  unfold parts5 at h ⊢
  by_cases k : e = 0 ∧ f = 0 ∧ g = 0
  · rw [if_pos k] at h ⊢
    have hp : pR 0 a b c = true := by
      cases z : pR 0 a b c
      · have := (g_no z).2.2.2
        exact absurd (h.symm.trans this) (by decide)
      · rfl
    obtain ⟨x, y, z, t⟩ := g_yes hp
    refine ⟨k.1, k.2.1, k.2.2, hp, ?_⟩
    unfold mk5
    rw [x, y, z, t]
  · rw [if_neg k] at h; exact absurd h (by decide)
theorem parts_in {a b c : Int} (h : pR 0 a b c = true) : parts5 a 0 b 0 c 0 = ⟨0, a, b, c, 0⟩ := by
  unfold parts5 mk5
  rw [if_pos ⟨rfl, rfl, rfl⟩]
  obtain ⟨x, y, z, t⟩ := g_yes h
  rw [x, y, z, t]

theorem walk (i m d u : Int) (wi : (Lit.int .i64 i).wf = true) (wm : (Lit.int .i64 m).wf = true) (wd : (Lit.int .i64 d).wf = true) (wu : (Lit.int .i64 u).wf = true) (j n e v : Int) (wj : (Lit.int .i64 j).wf = true) (wn : (Lit.int .i64 n).wf = true) (we : (Lit.int .i64 e).wf = true) (wv : (Lit.int .i64 v).wf = true) (w : World) :
    Calls Try.prog 7 #[.agg #[.int .i64 i, .int .i64 m, .int .i64 d, .int .i64 u], .agg #[.int .i64 j, .int .i64 n, .int .i64 e, .int .i64 v]] w fun r w' => r = .returned (.bool true) ∧ Below w.heap.size w w' := by
  obtain ⟨m1, m2⟩ := bounds_i64 wm
  obtain ⟨d1, d2⟩ := bounds_i64 wd
  obtain ⟨u1, u2⟩ := bounds_i64 wu
  obtain ⟨n1, n2⟩ := bounds_i64 wn
  obtain ⟨e1, e2⟩ := bounds_i64 we
  obtain ⟨v1, v2⟩ := bounds_i64 wv
  have A1 := fun w => padd_any i m d u m1 m2 d1 d2 u1 u2 j n e v v1 v2 w
  have A2 := fun w => padd_any j n e v n1 n2 e1 e2 v1 v2 i m d u u1 u2 w
  rw [← add_comm5] at A2
  have KN := fun w => known_any w
  obtain ⟨X, hX⟩ : ∃ X, X = add5 i m d u j n e v := ⟨_, rfl⟩
  rw [← hX] at A1 A2
  by_cases h1 : X.e = 0
  · by_cases h2 : i = 0
    · by_cases h3 : j = 0
      · subst h2
        subst h3
        have hp : pR 0 m d u = true ∧ pR 0 n e v = true := by
          by_cases k : pR 0 m d u = true ∧ pR 0 n e v = true
          · exact k
          · rw [show add5 0 m d u 0 n e v = err5 1 from if_neg k] at hX
            rw [hX] at h1; exact absurd h1 (by decide)
        have hX2 : X = parts5 (m + n) 0 (d + e) 0 (smV (u + v)) (smE (u + v)) := by
          rw [hX, add_p hp]
        rw [hX2] at h1
        obtain ⟨_, _, z, hr, hf⟩ := parts_zero h1
        obtain ⟨a, b, c⟩ := sm_zero z
        rw [a] at hr hf
        rw [z] at hf
        rw [a, z] at hX2
        rw [hX2, hf] at A1 A2
        have p := pR_yes hp.1
        have q := pR_yes hp.2
        have r := pR_yes hr
        have S1 := fun w => psub_any 0 (m + n) (d + e) (u + v) (by omega) (by omega) (by omega) (by omega) b c 0 n e v v1 v2 n1 n2 e1 e2 w
        have hs : sub5 0 (m + n) (d + e) (u + v) 0 n e v = ⟨0, m, d, u, 0⟩ := by
          unfold sub5
          rw [if_pos hp.2, show (-0 : Int) = 0 by decide]
          have hn : pR 0 (-n) (-e) (-v) = true := pR_in (by omega) (by omega) (by omega) (by omega) (by omega) (by omega)
          rw [add_p ⟨hr, hn⟩, show m + n + -n = m by omega, show d + e + -e = d by omega, show u + v + -v = u by omega, smV_in u1 u2, smE_in u1 u2]
          exact parts_in hp.1
        rw [hs] at S1
        exact core_SpanBack4 m d u n e v _ _ _ _ A1 A2 S1 KN w
      · subst h2
        rw [v5_0 h1] at A1 A2
        exact core_SpanBack3 m d u j n e v _ _ _ _ h3 A1 A2 KN w
    · rw [v5_0 h1] at A1 A2
      exact core_SpanBack2 i m d u j n e v _ _ _ _ h2 A1 A2 KN w
  · exact core_SpanBack1 i m d u j n e v _ _ _ _ _ h1 A1 A2 KN w

set_option maxRecDepth 100000 in
theorem lifted (os : Os) (started : os.Started) (H : Type) (enc : TypeId × Value → H) :
    ReturnsInHanded {} Try.checked os 7 .any (Rows.spanBackSpec.pre6 enc Try.prog Try.f7 Rows.spanBackRow.domain false) (Rows.spanBackSpec.post enc Try.prog Try.f7 false true false false) := by
  refine returnsInHanded_of_change_sized (C := Try.checked) own started (by kernel_rfl) Try.func7
    (ChangeSpec.witness6 (enc := enc) (C := Try.checked) false ⟨#[], #[.agg #[.int .i64 0, .int .i64 0, .int .i64 0, .int .i64 0], .agg #[.int .i64 0, .int .i64 0, .int .i64 0, .int .i64 0]], []⟩ 8 (by kernel_rfl) (by kernel_rfl) (by kernel_rfl) (by kernel_rfl)) ?_
  intro W base args ds gs before hval0 hW hcnd hsz0 _
  have hval : ∀ (j : Nat) t v, Try.f7.params[j]? = some t → args[j]? = some v → Value.okWide Try.prog W .any base t v := hval0
  have hW' := hW
  obtain ⟨p, q, hA0, hV, rfl, hfz, hnd⟩ := hW
  have hA : DataW.TrodAll enc Try.prog W 0 (fun _ => true) true Try.f7.params.toList args.toList ds p := hA0
  rw [Try.params7] at hA hval
  obtain ⟨v0, vs0, d0, ds0, p0, q0, ha0, rfl, rfl, h0, r0⟩ := trodAll_cons hA
  obtain ⟨v1, vs1, d1, ds1, p1, q1, ha1, rfl, rfl, h1, r1⟩ := trodAll_cons r0
  obtain ⟨rfl, rfl, rfl⟩ := trodAll_nil r1
  subst ha1
  obtain rfl : args = #[v0, v1] := by cases args; simp_all
  obtain ⟨rfl, rfl⟩ := trodVars_none hV
  obtain ⟨c0_0, c0_1, c0_2, c0_3, y0_0, y0_1, y0_2, y0_3, m0, rfl, rfl, rfl, hy0_0, hy0_1, hy0_2, hy0_3⟩ := Joins.open_agg4 Try.underlying23 (by kernel_rfl) (show Try.prog.cellsOf 23 = 4 by kernel_rfl) (hval 0 23 v0 rfl rfl) h0
  obtain ⟨n0_0, i0_0, rfl, wn0_0⟩ := DataW.trod_int Try.underlying3 hy0_0
  simp at i0_0
  subst i0_0
  obtain ⟨n0_1, i0_1, rfl, wn0_1⟩ := DataW.trod_int Try.underlying2 hy0_1
  simp at i0_1
  subst i0_1
  obtain ⟨n0_2, i0_2, rfl, wn0_2⟩ := DataW.trod_int Try.underlying2 hy0_2
  simp at i0_2
  subst i0_2
  obtain ⟨n0_3, i0_3, rfl, wn0_3⟩ := DataW.trod_int Try.underlying2 hy0_3
  simp at i0_3
  subst i0_3
  obtain ⟨c1_0, c1_1, c1_2, c1_3, y1_0, y1_1, y1_2, y1_3, m1, rfl, rfl, rfl, hy1_0, hy1_1, hy1_2, hy1_3⟩ := Joins.open_agg4 Try.underlying23 (by kernel_rfl) (show Try.prog.cellsOf 23 = 4 by kernel_rfl) (hval 1 23 v1 rfl rfl) h1
  obtain ⟨n1_0, i1_0, rfl, wn1_0⟩ := DataW.trod_int Try.underlying3 hy1_0
  simp at i1_0
  subst i1_0
  obtain ⟨n1_1, i1_1, rfl, wn1_1⟩ := DataW.trod_int Try.underlying2 hy1_1
  simp at i1_1
  subst i1_1
  obtain ⟨n1_2, i1_2, rfl, wn1_2⟩ := DataW.trod_int Try.underlying2 hy1_2
  simp at i1_2
  subst i1_2
  obtain ⟨n1_3, i1_3, rfl, wn1_3⟩ := DataW.trod_int Try.underlying2 hy1_3
  simp at i1_3
  subst i1_3
  clear hA0 hval0
  simp only [List.append_nil] at hW'
  refine (walk n0_0 n0_1 n0_2 n0_3 wn0_0 wn0_1 wn0_2 wn0_3 n1_0 n1_1 n1_2 n1_3 wn1_0 wn1_1 wn1_2 wn1_3 W).mono fun e W' ⟨he, hg⟩ => ?_
  subst he
  exact ⟨_, rfl, _, _, _, [], [], [], hW', (trodAll_cons_mk (shut_bool Try.underlying4 _) trodAll_mk0), (trodAll_cons_mk ((Joins.shut_agg4 (y0 := (.lit (.int .i64 n0_0), [])) (y1 := (.lit (.int .i64 n0_1), [])) (y2 := (.lit (.int .i64 n0_2), [])) (y3 := (.lit (.int .i64 n0_3), [])) Try.underlying23 (by kernel_rfl) (show Try.prog.cellsOf 23 = 4 by kernel_rfl) ⟨1, by simp [DataW.trod, Try.underlying3, wn0_0]⟩ ⟨1, by simp [DataW.trod, Try.underlying2, wn0_1]⟩ ⟨1, by simp [DataW.trod, Try.underlying2, wn0_2]⟩ ⟨1, by simp [DataW.trod, Try.underlying2, wn0_3]⟩)) (trodAll_cons_mk ((Joins.shut_agg4 (y0 := (.lit (.int .i64 n1_0), [])) (y1 := (.lit (.int .i64 n1_1), [])) (y2 := (.lit (.int .i64 n1_2), [])) (y3 := (.lit (.int .i64 n1_3), [])) Try.underlying23 (by kernel_rfl) (show Try.prog.cellsOf 23 = 4 by kernel_rfl) ⟨1, by simp [DataW.trod, Try.underlying3, wn1_0]⟩ ⟨1, by simp [DataW.trod, Try.underlying2, wn1_1]⟩ ⟨1, by simp [DataW.trod, Try.underlying2, wn1_2]⟩ ⟨1, by simp [DataW.trod, Try.underlying2, wn1_3]⟩)) trodAll_mk0)), rfl, hg.frame _, fun h => by cases h⟩

theorem over : Rows.spanBackRow.holds Try.pinned (OpenSpec.ofChange Rows.spanBackSpec) :=
  OpenClaim.holds_of_wide 7 Try.f7 rfl rfl rfl rfl rfl rfl rfl ⟨rfl, rfl, rfl, rfl, rfl⟩ rfl rfl rfl rfl rfl (by kernel_rfl) Try.func7 (by kernel_rfl)
    (of_decide_eq_true (by kernel_rfl)) (by unfold Func.isWrapper; first | (rw [if_pos (by decide +kernel)]; kernel_rfl) | (rw [if_neg (by decide +kernel)]; exact ⟨rfl, rfl⟩))
    (fun os started H enc _ => lifted os started H enc)

theorem proved : Rows.SpanBackSaid :=
  over

end Go.Proofs.Ytghfgabajdghiab.spanBack
