/- Any interval, justified, is what the document says; it is as long, and all its parts have one sign: SpanJustifies returns true for every interval. -/
import Derived.Test.YtghfgabajdghiabRows
import Derived.WalkKit
import Derived.ProofKit
import Derived.LaidMore
import Derived.OpenShut
import Derived.ShutString
import Derived.Stop.Joined
import Derived.Lib.LaidTab
import Derived.Lib.SmallJoins
import Derived.Stop.LaidErr
import Derived.Lay
import Derived.SevenTiedAt
import Derived.ChangeMaps5
import Derived.SizedLaws
import Derived.Lib.LaidU8T
import Derived.Shelf.Vars
import Derived.Test.YtghfgabajdghiabLwSpanJustifies
import Derived.Test.YtghfgabajdghiabSpN
import Derived.Test.YtghfgabajdghiabSpKb
namespace Go.Proofs.Ytghfgabajdghiab.spanJustifies
open Go.ChangeShapes Go.WideShapes Go.ChangeAt Go.WideMaps Go.WideElems Go.RowKit
set_option linter.unusedVariables false

theorem own : ownKnob Try.prog.godebug = none := by kernel_rfl

theorem jus_math (M1 D2 U1 l t : Int) (e1 : -30 < D2) (e2 : D2 < 30) (f1 : -86400000000 < U1) (f2 : U1 < 86400000000)
    (l1 : D2 * 86400000000 + U1 < 0 → l = -1) (l2 : 0 < D2 * 86400000000 + U1 → l = 1) (l3 : D2 * 86400000000 + U1 = 0 → l = 0) (t1 : U1 < 0 → t = -1) (t2 : 0 < U1 → t = 1) (t3 : U1 = 0 → t = 0) :
    lng (lG M1 l) (lG (lS M1 D2 30 l) t) (lS (lS M1 D2 30 l) U1 86400000000 t) = (M1 * 30 + D2) * 86400000000 + U1 ∧
      ((0 ≤ lG M1 l ∧ 0 ≤ lG (lS M1 D2 30 l) t ∧ 0 ≤ lS (lS M1 D2 30 l) U1 86400000000 t) ∨ (lG M1 l ≤ 0 ∧ lG (lS M1 D2 30 l) t ≤ 0 ∧ lS (lS M1 D2 30 l) U1 86400000000 t ≤ 0)) := by
  obtain ⟨M2, D3, hM, hD, hL, hS⟩ : ∃ M2 D3, lG M1 l = M2 ∧ lS M1 D2 30 l = D3 ∧ M2 * 30 + D3 = M1 * 30 + D2 ∧
      ((0 < M1 ∧ D2 * 86400000000 + U1 < 0 ∧ M2 = M1 - 1 ∧ D3 = D2 + 30) ∨ (M1 < 0 ∧ 0 < D2 * 86400000000 + U1 ∧ M2 = M1 + 1 ∧ D3 = D2 - 30) ∨ (M2 = M1 ∧ D3 = D2 ∧ (0 < M1 → 0 ≤ D2 * 86400000000 + U1) ∧ (M1 < 0 → D2 * 86400000000 + U1 ≤ 0))) := by
    refine ⟨_, _, rfl, rfl, ?_, ?_⟩
    · unfold lG lS; split; omega; split <;> omega
    · unfold lG lS
      by_cases a : 0 < M1 ∧ l < 0
      · rw [if_pos a, if_pos a]; exact .inl ⟨a.1, by omega, rfl, rfl⟩
      · rw [if_neg a, if_neg a]
        by_cases b : M1 < 0 ∧ 0 < l
        · rw [if_pos b, if_pos b]; exact .inr (.inl ⟨b.1, by omega, rfl, rfl⟩)
        · rw [if_neg b, if_neg b]; exact .inr (.inr ⟨rfl, rfl, by omega, by omega⟩)
  rw [hM, hD]
  obtain ⟨D4, U2, hE, hF, hQ, hT⟩ : ∃ D4 U2, lG D3 t = D4 ∧ lS D3 U1 86400000000 t = U2 ∧ D4 * 86400000000 + U2 = D3 * 86400000000 + U1 ∧
      ((0 < D3 ∧ U1 < 0 ∧ D4 = D3 - 1 ∧ U2 = U1 + 86400000000) ∨ (D3 < 0 ∧ 0 < U1 ∧ D4 = D3 + 1 ∧ U2 = U1 - 86400000000) ∨ (D4 = D3 ∧ U2 = U1 ∧ (0 < D3 → 0 ≤ U1) ∧ (D3 < 0 → U1 ≤ 0))) := by
    refine ⟨_, _, rfl, rfl, ?_, ?_⟩
    · unfold lG lS; split; omega; split <;> omega
    · unfold lG lS
      by_cases a : 0 < D3 ∧ t < 0
      · rw [if_pos a, if_pos a]; exact .inl ⟨a.1, by omega, rfl, rfl⟩
      · rw [if_neg a, if_neg a]
        by_cases b : D3 < 0 ∧ 0 < t
        · rw [if_pos b, if_pos b]; exact .inr (.inl ⟨b.1, by omega, rfl, rfl⟩)
        · rw [if_neg b, if_neg b]; exact .inr (.inr ⟨rfl, rfl, by omega, by omega⟩)
  rw [hE, hF]
  clear l1 l2 l3 t1 t2 t3 hM hD hE hF
  refine ⟨by unfold lng; omega, ?_⟩
  rcases hS with h | h | h <;> rcases hT with k | k | k <;> omega
theorem mk_zero {a b c : Int} (h : (mk5 a b c).e = 0) : pR 0 a b c = true ∧ mk5 a b c = ⟨0, a, b, c, 0⟩ := by
  have hp : pR 0 a b c = true := by
    cases z : pR 0 a b c
    · have := (g_no z).2.2.2
      exact absurd (h.symm.trans this) (by decide)
    · rfl
  obtain ⟨x, y, z, t⟩ := g_yes hp
  refine ⟨hp, ?_⟩
  unfold mk5
  rw [x, y, z, t]

theorem walk (i m d u : Int) (wi : (Lit.int .i64 i).wf = true) (wm : (Lit.int .i64 m).wf = true) (wd : (Lit.int .i64 d).wf = true) (wu : (Lit.int .i64 u).wf = true) (w : World) :
    Calls Try.prog 6 #[.agg #[.int .i64 i, .int .i64 m, .int .i64 d, .int .i64 u]] w fun r w' => r = .returned (.bool true) ∧ Below w.heap.size w w' := by
  obtain ⟨u1, u2⟩ := bounds_i64 wu
  have J1 := fun w => pjus_any i m d u u1 u2 w
  have J2 := fun w => rpjus_any i m d u u1 u2 w
  have KN := fun w => known_any w
  by_cases h1 : (jus5 i m d u).e = 0
  · have hp : pR i m d u = true := by
      cases z : pR i m d u
      · rw [show jus5 i m d u = err5 1 from if_neg (by rw [z]; decide)] at h1
        exact absurd h1 (by decide)
      · rfl
    by_cases h0 : i = 0
    · subst h0
      have hc : cnt (jD d u) = true := by
        cases z : cnt (jD d u)
        · rw [show jus5 0 m d u = err5 10 by unfold jus5; rw [if_pos hp, if_pos rfl, if_neg (by rw [z]; decide)]] at h1
          exact absurd h1 (by decide)
        · rfl
      have hj : jus5 0 m d u = mk5 (jM2 m d u) (jD4 m d u) (jU2 m d u) := by unfold jus5; rw [if_pos hp, if_pos rfl, if_pos hc]
      rw [hj] at h1
      obtain ⟨hr, hf⟩ := mk_zero h1
      rw [hj, hf] at J1 J2
      have hE : -30 < jE d u ∧ jE d u < 30 := tmod_30 (jD d u)
      have hU : -86400000000 < jU u ∧ jU u < 86400000000 := tmod_day u
      have eS : jS d u = sgnC (lng 0 (jE d u) (jU u)) 0 := sg_lng (pR_in (by decide) (by decide) (by omega) (by omega) (by omega) (by omega))
      have eL : lng 0 (jE d u) (jU u) = jE d u * 86400000000 + jU u := by unfold lng; omega
      rw [eL] at eS
      have M := jus_math (jM m d u) (jE d u) (jU u) (jS d u) (sgnC (jU u) 0) hE.1 hE.2 hU.1 hU.2 (fun a => by rw [eS, sgnC_lt a]) (fun a => by rw [eS, sgnC_gt a]) (fun a => by rw [eS, a, sgnC_eq]) (fun a => sgnC_lt a) (fun a => sgnC_gt a) (fun a => by rw [a, sgnC_eq])
      have el : lng m d u = (jM m d u * 30 + jE d u) * 86400000000 + jU u := by
        have a := Int.mul_tdiv_add_tmod u 86400000000
        have b := Int.mul_tdiv_add_tmod (jD d u) 30
        unfold lng jM jE jU
        unfold jD at b ⊢
        omega
      have hl : lng (jM2 m d u) (jD4 m d u) (jU2 m d u) = lng m d u := M.1.trans el.symm
      have hs : (0 ≤ jM2 m d u ∧ 0 ≤ jD4 m d u ∧ 0 ≤ jU2 m d u) ∨ (jM2 m d u ≤ 0 ∧ jD4 m d u ≤ 0 ∧ jU2 m d u ≤ 0) := M.2
      have q := pR_yes hr
      have C := fun w => pcmp_any 0 m d u 0 (jM2 m d u) (jD4 m d u) (jU2 m d u) u1 u2 (by omega) (by omega) w
      rw [cm_eq hp hr, hl, sgnC_eq] at C
      generalize jM2 m d u = M2 at *
      generalize jD4 m d u = D4 at *
      generalize jU2 m d u = U2 at *
      clear M eL eS hE hU el hl hj h1 hf hr q
      rcases Int.lt_trichotomy M2 0 with a | a | a
      · exact core_SpanJus_n1 0 m d u 0 M2 D4 U2 a (by omega) (by omega) (by omega) J1 J2 C KN w
      · subst a
        rcases Int.lt_trichotomy D4 0 with b | b | b
        · exact core_SpanJus_n2 0 m d u 0 D4 U2 b (by omega) (by omega) J1 J2 C KN w
        · subst b
          rcases Int.lt_trichotomy U2 0 with c | c | c
          · exact core_SpanJus_n3 0 m d u 0 U2 c (by omega) J1 J2 C KN w
          · subst c
            exact core_SpanJus_z 0 m d u 0 J1 J2 C KN w
          · exact core_SpanJus_p3 0 m d u 0 U2 c (by omega) J1 J2 C KN w
        · exact core_SpanJus_p2 0 m d u 0 D4 U2 b (by omega) (by omega) J1 J2 C KN w
      · exact core_SpanJus_p1 0 m d u 0 M2 D4 U2 a (by omega) (by omega) (by omega) J1 J2 C KN w
    · have hj : jus5 i m d u = ⟨i, m, d, u, 0⟩ := by unfold jus5; rw [if_pos hp, if_neg h0]
      obtain ⟨_, rfl, rfl, rfl⟩ := (pR_yes hp).resolve_left (fun z => h0 z.1)
      rw [hj] at J1 J2
      have C := fun w => pcmp_any i 0 0 0 i 0 0 0 (by decide) (by decide) (by decide) (by decide) w
      rw [cm_eq hp hp, sgnC_eq] at C
      exact core_SpanJus_z i 0 0 0 i J1 J2 C KN w
  · exact core_SpanJusNo i m d u _ _ _ _ _ h1 J1 J2 KN w

set_option maxRecDepth 100000 in
theorem lifted (os : Os) (started : os.Started) (H : Type) (enc : TypeId × Value → H) :
    ReturnsInHanded {} Try.checked os 6 .any (Rows.spanJustifiesSpec.pre6 enc Try.prog Try.f6 Rows.spanJustifiesRow.domain false) (Rows.spanJustifiesSpec.post enc Try.prog Try.f6 false true false false) := by
  refine returnsInHanded_of_change_sized (C := Try.checked) own started (by kernel_rfl) Try.func6
    (ChangeSpec.witness6 (enc := enc) (C := Try.checked) false ⟨#[], #[.agg #[.int .i64 0, .int .i64 0, .int .i64 0, .int .i64 0]], []⟩ 8 (by kernel_rfl) (by kernel_rfl) (by kernel_rfl) (by kernel_rfl)) ?_
  intro W base args ds gs before hval0 hW hcnd hsz0 _
  have hval : ∀ (j : Nat) t v, Try.f6.params[j]? = some t → args[j]? = some v → Value.okWide Try.prog W .any base t v := hval0
  have hW' := hW
  obtain ⟨p, q, hA0, hV, rfl, hfz, hnd⟩ := hW
  have hA : DataW.TrodAll enc Try.prog W 0 (fun _ => true) true Try.f6.params.toList args.toList ds p := hA0
  rw [Try.params6] at hA hval
  obtain ⟨v0, vs0, d0, ds0, p0, q0, ha0, rfl, rfl, h0, r0⟩ := trodAll_cons hA
  obtain ⟨rfl, rfl, rfl⟩ := trodAll_nil r0
  obtain rfl : args = #[v0] := by cases args; simp_all
  obtain ⟨rfl, rfl⟩ := trodVars_none hV
  obtain ⟨c0_0, c0_1, c0_2, c0_3, y0_0, y0_1, y0_2, y0_3, m0, rfl, rfl, rfl, hy0_0, hy0_1, hy0_2, hy0_3⟩ := Joins.open_agg4 Try.underlying23 (by kernel_rfl) (show Try.prog.cellsOf 23 = 4 by kernel_rfl) (hval 0 23 v0 rfl rfl) h0
  obtain ⟨n0_0, i0_0, rfl, wn0_0⟩ := DataW.trod_int Try.underlying3 hy0_0
  simp at i0_0
  subst i0_0
  obtain ⟨n0_1, i0_1, rfl, wn0_1⟩ := DataW.trod_int Try.underlying2 hy0_1
  simp at i0_1
  subst i0_1
  obtain ⟨n0_2, i0_2, rfl, wn0_2⟩ := DataW.trod_int Try.underlying2 hy0_2
  simp at i0_2
  subst i0_2
  obtain ⟨n0_3, i0_3, rfl, wn0_3⟩ := DataW.trod_int Try.underlying2 hy0_3
  simp at i0_3
  subst i0_3
  clear hA0 hval0
  simp only [List.append_nil] at hW'
  refine (walk n0_0 n0_1 n0_2 n0_3 wn0_0 wn0_1 wn0_2 wn0_3 W).mono fun e W' ⟨he, hg⟩ => ?_
  subst he
  exact ⟨_, rfl, _, _, _, [], [], [], hW', (trodAll_cons_mk (shut_bool Try.underlying4 _) trodAll_mk0), (trodAll_cons_mk ((Joins.shut_agg4 (y0 := (.lit (.int .i64 n0_0), [])) (y1 := (.lit (.int .i64 n0_1), [])) (y2 := (.lit (.int .i64 n0_2), [])) (y3 := (.lit (.int .i64 n0_3), [])) Try.underlying23 (by kernel_rfl) (show Try.prog.cellsOf 23 = 4 by kernel_rfl) ⟨1, by simp [DataW.trod, Try.underlying3, wn0_0]⟩ ⟨1, by simp [DataW.trod, Try.underlying2, wn0_1]⟩ ⟨1, by simp [DataW.trod, Try.underlying2, wn0_2]⟩ ⟨1, by simp [DataW.trod, Try.underlying2, wn0_3]⟩)) trodAll_mk0), rfl, hg.frame _, fun h => by cases h⟩

theorem over : Rows.spanJustifiesRow.holds Try.pinned (OpenSpec.ofChange Rows.spanJustifiesSpec) :=
  OpenClaim.holds_of_wide 6 Try.f6 rfl rfl rfl rfl rfl rfl rfl ⟨rfl, rfl, rfl, rfl, rfl⟩ rfl rfl rfl rfl rfl (by kernel_rfl) Try.func6 (by kernel_rfl)
    (of_decide_eq_true (by kernel_rfl)) (by unfold Func.isWrapper; first | (rw [if_pos (by decide +kernel)]; kernel_rfl) | (rw [if_neg (by decide +kernel)]; exact ⟨rfl, rfl⟩))
    (fun os started H enc _ => lifted os started H enc)

theorem proved : Rows.SpanJustifiesSaid :=
  over

end Go.Proofs.Ytghfgabajdghiab.spanJustifies
