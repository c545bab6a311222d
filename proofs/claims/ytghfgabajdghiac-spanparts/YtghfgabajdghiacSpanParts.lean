/- An interval is its months, its days and its microseconds, one by one together: SpanParts returns true for every interval. -/
import Derived.Test.YtghfgabajdghiacRows
import Derived.WalkKit
import Derived.ProofKit
import Derived.LaidMore
import Derived.OpenShut
import Derived.ShutString
import Derived.Stop.Joined
import Derived.Lib.LaidTab
import Derived.Lib.SmallJoins
import Derived.Stop.LaidErr
import Derived.Lay
import Derived.SevenTiedAt
import Derived.ChangeMaps5
import Derived.SizedLaws
import Derived.Lib.LaidU8T
import Derived.Shelf.Vars
import Derived.Test.YtghfgabajdghiacLwSpanParts
import Derived.Test.YtghfgabajdghiacSpN
import Derived.Test.YtghfgabajdghiacSpEb
namespace Go.Proofs.Ytghfgabajdghiac.spanParts
open Go.ChangeShapes Go.WideShapes Go.ChangeAt Go.WideMaps Go.WideElems Go.RowKit
set_option linter.unusedVariables false

theorem own : ownKnob Try.prog.godebug = none := by kernel_rfl

theorem parts_in {a b c : Int} (h : pR 0 a b c = true) : parts5 a 0 b 0 c 0 = ⟨0, a, b, c, 0⟩ := by
  unfold parts5 mk5
  rw [if_pos ⟨rfl, rfl, rfl⟩]
  obtain ⟨x, y, z, t⟩ := g_yes h
  rw [x, y, z, t]
theorem add_in5 {m d u n e v : Int} (h : pR 0 m d u = true) (k : pR 0 n e v = true) (r : pR 0 (m + n) (d + e) (u + v) = true) : add5 0 m d u 0 n e v = ⟨0, m + n, d + e, u + v, 0⟩ := by
  have q := pR_yes r
  unfold add5
  rw [if_pos ⟨h, k⟩, if_neg (show ¬ (0 : Int) ≠ 0 by decide), if_neg (show ¬ (0 : Int) ≠ 0 by decide), smV_in (by omega) (by omega), smE_in (by omega) (by omega)]
  exact parts_in r

theorem walk (i m d u : Int) (wi : (Lit.int .i64 i).wf = true) (wm : (Lit.int .i64 m).wf = true) (wd : (Lit.int .i64 d).wf = true) (wu : (Lit.int .i64 u).wf = true) (w : World) :
    Calls Try.prog 3 #[.agg #[.int .i64 i, .int .i64 m, .int .i64 d, .int .i64 u]] w fun r w' => r = .returned (.bool true) ∧ Below w.heap.size w w' := by
  obtain ⟨m1, m2⟩ := bounds_i64 wm
  obtain ⟨d1, d2⟩ := bounds_i64 wd
  obtain ⟨u1, u2⟩ := bounds_i64 wu
  have R := rpright_is i m d u u1 u2
  have KN := fun w => known_any w
  cases h : pR i m d u
  · exact core_SpanParts1 i m d u (R false h) KN w
  · by_cases h0 : i = 0
    · subst h0
      have q := pR_yes h
      have b1 : -2147483647 ≤ m := by omega
      have b2 : m ≤ 2147483647 := by omega
      have b3 : -2147483647 ≤ d := by omega
      have b4 : d ≤ 2147483647 := by omega
      have b5 : -9223372036854775807 ≤ u := by omega
      have A1 := fun w => padd_any 0 m 0 0 m1 m2 (by decide) (by decide) (by decide) (by decide) 0 0 d 0 (by decide) (by decide) w
      have e1 : add5 0 m 0 0 0 0 d 0 = ⟨0, m, d, 0, 0⟩ := by
        have := add_in5 (m := m) (d := 0) (u := 0) (n := 0) (e := d) (v := 0) (pR_in b1 b2 (by decide) (by decide) (by decide) (by decide)) (pR_in (by decide) (by decide) b3 b4 (by decide) (by decide)) (pR_in (by omega) (by omega) (by omega) (by omega) (by decide) (by decide))
        rw [this, Int.add_zero, Int.zero_add]; rfl
      rw [e1] at A1
      have A2 := fun w => padd_any 0 0 0 u (by decide) (by decide) (by decide) (by decide) u1 u2 0 m d 0 (by decide) (by decide) w
      have e2 : add5 0 0 0 u 0 m d 0 = ⟨0, m, d, u, 0⟩ := by
        have := add_in5 (m := 0) (d := 0) (u := u) (n := m) (e := d) (v := 0) (pR_in (by decide) (by decide) (by decide) (by decide) b5 u2) (pR_in b1 b2 b3 b4 (by decide) (by decide)) (pR_in (by omega) (by omega) (by omega) (by omega) (by omega) (by omega))
        rw [this, Int.add_zero, Int.zero_add, Int.zero_add]
      rw [e2] at A2
      have MK := fun w => pmake_any m d u u1 u2 w
      obtain ⟨x, y, z, t⟩ := g_yes h
      rw [x, y, z, t] at MK
      have S1 := fun w => psub_any 0 m d u m1 m2 d1 d2 u1 u2 0 m d u u1 u2 m1 m2 d1 d2 w
      have e3 : sub5 0 m d u 0 m d u = ⟨0, 0, 0, 0, 0⟩ := by
        unfold sub5
        rw [if_pos h, show (-0 : Int) = 0 by decide]
        have := add_in5 (m := m) (d := d) (u := u) (n := -m) (e := -d) (v := -u) h (pR_in (by omega) (by omega) (by omega) (by omega) (by omega) (by omega)) (pR_in (by omega) (by omega) (by omega) (by omega) (by omega) (by omega))
        rw [this, show m + -m = 0 by omega, show d + -d = 0 by omega, show u + -u = 0 by omega]
      rw [e3] at S1
      exact core_SpanParts3 m d u (R true h) A1 A2 MK S1 KN w
    · exact core_SpanParts2 i m d u h0 (R true h) KN w

set_option maxRecDepth 100000 in
theorem lifted (os : Os) (started : os.Started) (H : Type) (enc : TypeId × Value → H) :
    ReturnsInHanded {} Try.checked os 3 .any (Rows.spanPartsSpec.pre6 enc Try.prog Try.f3 Rows.spanPartsRow.domain false) (Rows.spanPartsSpec.post enc Try.prog Try.f3 false true false false) := by
  refine returnsInHanded_of_change_sized (C := Try.checked) own started (by kernel_rfl) Try.func3
    (ChangeSpec.witness6 (enc := enc) (C := Try.checked) false ⟨#[], #[.agg #[.int .i64 0, .int .i64 0, .int .i64 0, .int .i64 0]], []⟩ 8 (by kernel_rfl) (by kernel_rfl) (by kernel_rfl) (by kernel_rfl)) ?_
  intro W base args ds gs before hval0 hW hcnd hsz0 _
  have hval : ∀ (j : Nat) t v, Try.f3.params[j]? = some t → args[j]? = some v → Value.okWide Try.prog W .any base t v := hval0
  have hW' := hW
  obtain ⟨p, q, hA0, hV, rfl, hfz, hnd⟩ := hW
  have hA : DataW.TrodAll enc Try.prog W 0 (fun _ => true) true Try.f3.params.toList args.toList ds p := hA0
  rw [Try.params3] at hA hval
  obtain ⟨v0, vs0, d0, ds0, p0, q0, ha0, rfl, rfl, h0, r0⟩ := trodAll_cons hA
  obtain ⟨rfl, rfl, rfl⟩ := trodAll_nil r0
  obtain rfl : args = #[v0] := by cases args; simp_all
  obtain ⟨rfl, rfl⟩ := trodVars_none hV
  obtain ⟨c0_0, c0_1, c0_2, c0_3, y0_0, y0_1, y0_2, y0_3, m0, rfl, rfl, rfl, hy0_0, hy0_1, hy0_2, hy0_3⟩ := Joins.open_agg4 Try.underlying23 (by kernel_rfl) (show Try.prog.cellsOf 23 = 4 by kernel_rfl) (hval 0 23 v0 rfl rfl) h0
  obtain ⟨n0_0, i0_0, rfl, wn0_0⟩ := DataW.trod_int Try.underlying3 hy0_0
  simp at i0_0
  subst i0_0
  obtain ⟨n0_1, i0_1, rfl, wn0_1⟩ := DataW.trod_int Try.underlying2 hy0_1
  simp at i0_1
  subst i0_1
  obtain ⟨n0_2, i0_2, rfl, wn0_2⟩ := DataW.trod_int Try.underlying2 hy0_2
  simp at i0_2
  subst i0_2
  obtain ⟨n0_3, i0_3, rfl, wn0_3⟩ := DataW.trod_int Try.underlying2 hy0_3
  simp at i0_3
  subst i0_3
  clear hA0 hval0
  simp only [List.append_nil] at hW'
  refine (walk n0_0 n0_1 n0_2 n0_3 wn0_0 wn0_1 wn0_2 wn0_3 W).mono fun e W' ⟨he, hg⟩ => ?_
  subst he
  exact ⟨_, rfl, _, _, _, [], [], [], hW', (trodAll_cons_mk (shut_bool Try.underlying4 _) trodAll_mk0), (trodAll_cons_mk ((Joins.shut_agg4 (y0 := (.lit (.int .i64 n0_0), [])) (y1 := (.lit (.int .i64 n0_1), [])) (y2 := (.lit (.int .i64 n0_2), [])) (y3 := (.lit (.int .i64 n0_3), [])) Try.underlying23 (by kernel_rfl) (show Try.prog.cellsOf 23 = 4 by kernel_rfl) ⟨1, by simp [DataW.trod, Try.underlying3, wn0_0]⟩ ⟨1, by simp [DataW.trod, Try.underlying2, wn0_1]⟩ ⟨1, by simp [DataW.trod, Try.underlying2, wn0_2]⟩ ⟨1, by simp [DataW.trod, Try.underlying2, wn0_3]⟩)) trodAll_mk0), rfl, hg.frame _, fun h => by cases h⟩

theorem over : Rows.spanPartsRow.holds Try.pinned (OpenSpec.ofChange Rows.spanPartsSpec) :=
  OpenClaim.holds_of_wide 3 Try.f3 rfl rfl rfl rfl rfl rfl rfl ⟨rfl, rfl, rfl, rfl, rfl⟩ rfl rfl rfl rfl rfl (by kernel_rfl) Try.func3 (by kernel_rfl)
    (of_decide_eq_true (by kernel_rfl)) (by unfold Func.isWrapper; first | (rw [if_pos (by decide +kernel)]; kernel_rfl) | (rw [if_neg (by decide +kernel)]; exact ⟨rfl, rfl⟩))
    (fun os started H enc _ => lifted os started H enc)

theorem proved : Rows.SpanPartsSaid :=
  over

end Go.Proofs.Ytghfgabajdghiac.spanParts
