/- An interval n times and once more is n + 1 times, where both can be: SpanTwice returns true for every interval and every number. -/
import Derived.Test.YtghfgabajdghiabRows
import Derived.WalkKit
import Derived.ProofKit
import Derived.LaidMore
import Derived.OpenShut
import Derived.ShutString
import Derived.Stop.Joined
import Derived.Lib.LaidTab
import Derived.Lib.SmallJoins
import Derived.Stop.LaidErr
import Derived.Lay
import Derived.SevenTiedAt
import Derived.ChangeMaps5
import Derived.SizedLaws
import Derived.Lib.LaidU8T
import Derived.Shelf.Vars
import Derived.Test.YtghfgabajdghiabLwSpanTwice
import Derived.Test.YtghfgabajdghiabSpN
import Derived.Test.YtghfgabajdghiabSpEb
namespace Go.Proofs.Ytghfgabajdghiab.spanTwice
open Go.ChangeShapes Go.WideShapes Go.ChangeAt Go.WideMaps Go.WideElems Go.RowKit
set_option linter.unusedVariables false

theorem own : ownKnob Try.prog.godebug = none := by kernel_rfl

theorem v5_0 {X : R5} (h : X.e = 0) : v5 X = .tuple #[.agg #[.int .i64 X.i, .int .i64 X.m, .int .i64 X.d, .int .i64 X.u], .int .i64 0] := by unfold v5; rw [h]
theorem sm_zero {x : Int} (h : smE x = 0) : smV x = x ∧ -9223372036854775808 ≤ x ∧ x ≤ 9223372036854775807 := by
  by_cases k : -9223372036854775808 ≤ x ∧ x ≤ 9223372036854775807
  · exact ⟨smV_in k.1 k.2, k⟩
  · rw [smE_out (by omega)] at h; exact absurd h (by decide)
theorem parts_zero {a b c e f g : Int} (h : (parts5 a e b f c g).e = 0) : e = 0 ∧ f = 0 ∧ g = 0 ∧ pR 0 a b c = true ∧ parts5 a e b f c g = ⟨0, a, b, c, 0⟩ := by
  unfold parts5 at h ⊢
  by_cases k : e = 0 ∧ f = 0 ∧ g = 0
  · rw [if_pos k] at h ⊢
    have hp : pR 0 a b c = true := by
      cases z : pR 0 a b c
      · have := (g_no z).2.2.2
        exact absurd (h.symm.trans this) (by decide)
      · rfl
    obtain ⟨x, y, z, t⟩ := g_yes hp
    refine ⟨k.1, k.2.1, k.2.2, hp, ?_⟩
    unfold mk5
    rw [x, y, z, t]
  · rw [if_neg k] at h; exact absurd h (by decide)
theorem parts_in {a b c : Int} (h : pR 0 a b c = true) : parts5 a 0 b 0 c 0 = ⟨0, a, b, c, 0⟩ := by
  unfold parts5 mk5
  rw [if_pos ⟨rfl, rfl, rfl⟩]
  obtain ⟨x, y, z, t⟩ := g_yes h
  rw [x, y, z, t]
theorem mul_zero5 {m d u k : Int} (h : (mul5 0 m d u k).e = 0) : pR 0 m d u = true ∧ pR 0 (m * k) (d * k) (u * k) = true ∧ mul5 0 m d u k = ⟨0, m * k, d * k, u * k, 0⟩ := by
  have hp : pR 0 m d u = true := by
    cases z : pR 0 m d u
    · rw [show mul5 0 m d u k = err5 1 from if_neg (by rw [z]; decide)] at h
      exact absurd h (by decide)
    · rfl
  have e : mul5 0 m d u k = parts5 (smV (m * k)) (smE (m * k)) (smV (d * k)) (smE (d * k)) (smV (u * k)) (smE (u * k)) := by unfold mul5; rw [if_pos hp, if_pos rfl]
  rw [e] at h
  obtain ⟨a, b, c, r, f⟩ := parts_zero h
  rw [e, f, (sm_zero a).1, (sm_zero b).1, (sm_zero c).1]
  rw [(sm_zero a).1, (sm_zero b).1, (sm_zero c).1] at r
  exact ⟨hp, r, rfl⟩

theorem walk (i m d u : Int) (wi : (Lit.int .i64 i).wf = true) (wm : (Lit.int .i64 m).wf = true) (wd : (Lit.int .i64 d).wf = true) (wu : (Lit.int .i64 u).wf = true) (n : Int) (wn : (Lit.int .i64 n).wf = true) (w : World) :
    Calls Try.prog 8 #[.agg #[.int .i64 i, .int .i64 m, .int .i64 d, .int .i64 u], .int .i64 n] w fun r w' => r = .returned (.bool true) ∧ Below w.heap.size w w' := by
  obtain ⟨m1, m2⟩ := bounds_i64 wm
  obtain ⟨d1, d2⟩ := bounds_i64 wd
  obtain ⟨u1, u2⟩ := bounds_i64 wu
  have hb := Nm.tmod_bd (a := n) (b := 1000) (by decide)
  obtain ⟨k, k1, k2, CT⟩ : ∃ k : Int, 0 ≤ k ∧ k ≤ 1000 ∧ ∀ w : World, Calls Try.prog 28 #[.int .i64 n, .int .i64 1000] w fun r w' => r = .returned (.int .i64 k) ∧ w' = w := by
    by_cases h : n.tmod 1000 < 0
    · exact ⟨_, by omega, by omega, fun w => count_b n h (by omega) w⟩
    · exact ⟨_, by omega, by omega, fun w => count_a n (by omega) w⟩
  have M1 := fun w => pmul_any i m d u m1 m2 d1 d2 u1 u2 k (by omega) (by omega) w
  have M2 := fun w => pmul_any i m d u m1 m2 d1 d2 u1 u2 (k + 1) (by omega) (by omega) w
  have KN := fun w => known_any w
  by_cases h1 : (mul5 i m d u k).e = 0
  · by_cases h2 : (mul5 i m d u (k + 1)).e = 0
    · by_cases h3 : i = 0
      · subst h3
        obtain ⟨hp, hr, hx⟩ := mul_zero5 h1
        obtain ⟨_, hs, hy⟩ := mul_zero5 h2
        rw [hx] at M1
        rw [hy] at M2
        have p := pR_yes hp
        have r := pR_yes hr
        have s := pR_yes hs
        have e1 : m * k + m = m * (k + 1) := by rw [Int.mul_add, Int.mul_one]
        have e2 : d * k + d = d * (k + 1) := by rw [Int.mul_add, Int.mul_one]
        have e3 : u * k + u = u * (k + 1) := by rw [Int.mul_add, Int.mul_one]
        have A1 := fun w => padd_any 0 (m * k) (d * k) (u * k) (by omega) (by omega) (by omega) (by omega) (by omega) (by omega) 0 m d u u1 u2 w
        have ha : add5 0 (m * k) (d * k) (u * k) 0 m d u = ⟨0, m * (k + 1), d * (k + 1), u * (k + 1), 0⟩ := by
          unfold add5
          rw [if_pos (show pR 0 (m * k) (d * k) (u * k) = true ∧ pR 0 m d u = true from ⟨hr, hp⟩), if_neg (show ¬ (0 : Int) ≠ 0 by decide), if_neg (show ¬ (0 : Int) ≠ 0 by decide), e1, e2, e3, smV_in (by omega) (by omega), smE_in (by omega) (by omega)]
          exact parts_in hs
        rw [ha] at A1
        exact core_SpanTwice4 m d u n k _ _ _ _ _ _ _ _ k1 k2 CT M1 M2 A1 KN w
      · rw [v5_0 h1] at M1
        rw [v5_0 h2] at M2
        exact core_SpanTwice3 m d u n k _ _ _ _ _ _ _ _ i k1 k2 h3 CT M1 M2 KN w
    · rw [v5_0 h1] at M1
      exact core_SpanTwice2 m d u n k _ _ _ _ _ _ _ _ i _ k1 k2 h2 CT M1 M2 KN w
  · exact core_SpanTwice1 m d u n k _ _ _ _ _ _ _ _ i _ _ k1 k2 h1 CT M1 M2 KN w

set_option maxRecDepth 100000 in
theorem lifted (os : Os) (started : os.Started) (H : Type) (enc : TypeId × Value → H) :
    ReturnsInHanded {} Try.checked os 8 .any (Rows.spanTwiceSpec.pre6 enc Try.prog Try.f8 Rows.spanTwiceRow.domain false) (Rows.spanTwiceSpec.post enc Try.prog Try.f8 false true false false) := by
  refine returnsInHanded_of_change_sized (C := Try.checked) own started (by kernel_rfl) Try.func8
    (ChangeSpec.witness6 (enc := enc) (C := Try.checked) false ⟨#[], #[.agg #[.int .i64 0, .int .i64 0, .int .i64 0, .int .i64 0], .int .i64 0], []⟩ 8 (by kernel_rfl) (by kernel_rfl) (by kernel_rfl) (by kernel_rfl)) ?_
  intro W base args ds gs before hval0 hW hcnd hsz0 _
  have hval : ∀ (j : Nat) t v, Try.f8.params[j]? = some t → args[j]? = some v → Value.okWide Try.prog W .any base t v := hval0
  have hW' := hW
  obtain ⟨p, q, hA0, hV, rfl, hfz, hnd⟩ := hW
  have hA : DataW.TrodAll enc Try.prog W 0 (fun _ => true) true Try.f8.params.toList args.toList ds p := hA0
  rw [Try.params8] at hA hval
  obtain ⟨v0, vs0, d0, ds0, p0, q0, ha0, rfl, rfl, h0, r0⟩ := trodAll_cons hA
  obtain ⟨v1, vs1, d1, ds1, p1, q1, ha1, rfl, rfl, h1, r1⟩ := trodAll_cons r0
  obtain ⟨rfl, rfl, rfl⟩ := trodAll_nil r1
  subst ha1
  obtain rfl : args = #[v0, v1] := by cases args; simp_all
  obtain ⟨rfl, rfl⟩ := trodVars_none hV
  obtain ⟨c0_0, c0_1, c0_2, c0_3, y0_0, y0_1, y0_2, y0_3, m0, rfl, rfl, rfl, hy0_0, hy0_1, hy0_2, hy0_3⟩ := Joins.open_agg4 Try.underlying23 (by kernel_rfl) (show Try.prog.cellsOf 23 = 4 by kernel_rfl) (hval 0 23 v0 rfl rfl) h0
  obtain ⟨n0_0, i0_0, rfl, wn0_0⟩ := DataW.trod_int Try.underlying3 hy0_0
  simp at i0_0
  subst i0_0
  obtain ⟨n0_1, i0_1, rfl, wn0_1⟩ := DataW.trod_int Try.underlying2 hy0_1
  simp at i0_1
  subst i0_1
  obtain ⟨n0_2, i0_2, rfl, wn0_2⟩ := DataW.trod_int Try.underlying2 hy0_2
  simp at i0_2
  subst i0_2
  obtain ⟨n0_3, i0_3, rfl, wn0_3⟩ := DataW.trod_int Try.underlying2 hy0_3
  simp at i0_3
  subst i0_3
  obtain ⟨a1, rfl, rfl, rfl, w1⟩ := open_int Try.underlying3 (hval 1 3 v1 rfl rfl) h1
  clear hA0 hval0
  simp only [List.append_nil] at hW'
  refine (walk n0_0 n0_1 n0_2 n0_3 wn0_0 wn0_1 wn0_2 wn0_3 a1 w1 W).mono fun e W' ⟨he, hg⟩ => ?_
  subst he
  exact ⟨_, rfl, _, _, _, [], [], [], hW', (trodAll_cons_mk (shut_bool Try.underlying4 _) trodAll_mk0), (trodAll_cons_mk ((Joins.shut_agg4 (y0 := (.lit (.int .i64 n0_0), [])) (y1 := (.lit (.int .i64 n0_1), [])) (y2 := (.lit (.int .i64 n0_2), [])) (y3 := (.lit (.int .i64 n0_3), [])) Try.underlying23 (by kernel_rfl) (show Try.prog.cellsOf 23 = 4 by kernel_rfl) ⟨1, by simp [DataW.trod, Try.underlying3, wn0_0]⟩ ⟨1, by simp [DataW.trod, Try.underlying2, wn0_1]⟩ ⟨1, by simp [DataW.trod, Try.underlying2, wn0_2]⟩ ⟨1, by simp [DataW.trod, Try.underlying2, wn0_3]⟩)) (trodAll_cons_mk (shut_int Try.underlying3 w1) trodAll_mk0)), rfl, hg.frame _, fun h => by cases h⟩

theorem over : Rows.spanTwiceRow.holds Try.pinned (OpenSpec.ofChange Rows.spanTwiceSpec) :=
  OpenClaim.holds_of_wide 8 Try.f8 rfl rfl rfl rfl rfl rfl rfl ⟨rfl, rfl, rfl, rfl, rfl⟩ rfl rfl rfl rfl rfl (by kernel_rfl) Try.func8 (by kernel_rfl)
    (of_decide_eq_true (by kernel_rfl)) (by unfold Func.isWrapper; first | (rw [if_pos (by decide +kernel)]; kernel_rfl) | (rw [if_neg (by decide +kernel)]; exact ⟨rfl, rfl⟩))
    (fun os started H enc _ => lifted os started H enc)

theorem proved : Rows.SpanTwiceSaid :=
  over

end Go.Proofs.Ytghfgabajdghiab.spanTwice
