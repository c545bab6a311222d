import Derived.Test.YtcgcljfdfimfgaaDoorR23
import Derived.Laws.StructEq
/- Contract: zone.rightFoot of any table, whole. -/
namespace Go.Proofs.YtcgcljfdfimfgaaDoor
open Go.RowKit Sr
set_option linter.unusedVariables false

/-- does the last change lie ahead of fr? -/
def lastB (L : List TrR) (fr : Int) : Bool := match L[L.length - 1]? with
  | none => true
  | some x => decide (x.at_ < fr)
/-- what rightFoot answers. -/
def RfIs (t : TbR) (b : Bool) : Prop := ∃ y p er, Fn.YAt t.foot.fr y ∧ FAt t.foot t.foot.fr p er ∧ b = (decide (1800 ≤ y) && decide (y ≤ 2110) && lastB t.trs t.foot.fr && (decide (er = 0) && decide (p.t = t.foot.fr)))
theorem rf_any (t : TbR) (sv : Value) (h1 : -9223372036854775808 ≤ t.foot.fr) (h2 : t.foot.fr ≤ 9223372036854775807) :
    ∃ b, RfIs t b ∧ ∀ w : World, Cvl.Lens w → Clk.Tab w → TrAt w sv t.trs → Calls Tryd.prog 24 #[.agg (tbL t sv).toArray] w fun e w' => e = .returned (.bool b) ∧ Below w.heap.size w w' := by
  obtain ⟨y, hy⟩ := Fn.yat_is t.foot.fr
  obtain ⟨p, er, hp, FA⟩ := fat_any t.foot t.foot.fr h1 h2
  refine ⟨_, ⟨y, p, er, hy, hp, rfl⟩, fun w hL hT hA => ?_⟩
  have YA : Hid (∀ w : World, Cvl.Lens w → Calls Tryd.prog 40 #[.int .i64 t.foot.fr] w fun e w' => e = .returned (.int .i64 y) ∧ w' = w) := fun w hw => Fn.yat_any t.foot.fr y hy h1 h2 w hw
  by_cases hr : y < 1800 ∨ 2110 < y
  · rw [show (decide (1800 ≤ y) && decide (y ≤ 2110)) = false by simp; omega, Bool.false_and, Bool.false_and]
    exact rf_year t sv y hr YA w hL
  · have y1 : 1800 ≤ y := by omega
    have y2 : y ≤ 2110 := by omega
    rw [show (decide (1800 ≤ y) && decide (y ≤ 2110)) = true by simp [y1, y2], Bool.true_and]
    cases hx : t.trs[t.trs.length - 1]? with
    | none =>
      have h0 : t.trs = [] := by
        have := List.getElem?_eq_none_iff.1 hx
        exact List.eq_nil_of_length_eq_zero (by omega)
      rw [show lastB t.trs t.foot.fr = true by unfold lastB; rw [hx], Bool.true_and]
      exact rf_none t sv y y1 y2 YA p er FA h0 w hL hT hA
    | some x =>
      by_cases hle : t.foot.fr ≤ x.at_
      · rw [show lastB t.trs t.foot.fr = false by unfold lastB; rw [hx]; simp; omega, Bool.false_and]
        exact rf_last t sv y y1 y2 YA x hx hle w hL hA
      · rw [show lastB t.trs t.foot.fr = true by unfold lastB; rw [hx]; simp; omega, Bool.true_and]
        exact rf_some t sv y y1 y2 YA p er FA x hx hle w hL hT hA

end Go.Proofs.YtcgcljfdfimfgaaDoor
/- A foot compared with a zero one. -/
namespace Go.Proofs.YtcgcljfdfimfgaaDoor
open Go.RowKit Sr
set_option linter.unusedVariables false

def zerF : List Value := [.bool false, .int .i64 0, .int .i64 0, .int .i64 0, .int .i64 0, .int .i64 0, .int .i64 0, .int .i64 0, .int .u8 0, .int .i64 0, .string ⟨#[]⟩, .int .i64 0, .int .i64 0, .int .i64 0, .int .i64 0, .int .i64 0, .int .u8 0, .int .i64 0, .string ⟨#[]⟩]
def halfZ (a : Fn.Hf) : Bool := a.m == 0 && a.k == 0 && a.d == 0 && a.n == 0 && a.s == 0 && a.z == 0 && a.v == 0 && (a.t.toList == [])
def footZ (f : Fn.Ft) : Bool := !f.h && f.fr == 0 && f.off == 0 && halfZ f.A && halfZ f.B

theorem ite_ok {c : Prop} [Decidable c] (r : Bool) (w : World) : (if c then Result.ok r w else Result.ok false w) = Result.ok (decide c && r) w := by split <;> simp [*]
theorem ite_ok' {c : Prop} [Decidable c] (r : Bool) (w : World) : (if c then Result.ok false w else Result.ok r w) = Result.ok (decide (¬ c) && r) w := by split <;> simp [*]

set_option maxRecDepth 100000 in
set_option maxHeartbeats 4000000 in
theorem foot_eq (f : Fn.Ft) (w : World) : (Op.equalIn 10000 44 (.agg (Fn.fL f).toArray) (.agg zerF.toArray)).run Tryd.prog w = .ok (footZ f) w := by
  rw [run_equalIn_struct w 9999 44 _ _ (by kernel_rfl) (by kernel_rfl)]
  unfold Fn.fL zerF
  go_simp
  simp only [ite_ok, ite_ok']
  congr 1
  rw [Bool.eq_iff_iff]
  simp only [footZ, halfZ, Bool.and_eq_true, decide_eq_true_eq, beq_iff_eq, Bool.not_eq_true', Bool.not_eq_true, and_assoc, and_true]

end Go.Proofs.YtcgcljfdfimfgaaDoor
