/- WideMath, WideA, WideB, WideM, WideC, WideD, WideE, WideF, WideG, WideT, WideU, WideV, WideX, WideY, WideZ, WideQ, WideS, as one text. -/
import Derived.Test.YtpdmndlpgjjopaaGreatDoorNmZq
import Derived.RegionTactic
import Derived.ChangeAlike
import Derived.Deep.RegionWith
import Derived.Deep.DeepMust
import Derived.Deep.RegionHeld3
import Derived.Deep.QuietTactic
import Derived.BigQuiet
import Derived.Test.YtpdmndlpgjjopaaGreatDoorNmZq
/- Plain mathematics of numbers in parts of 32 bits: what one part of a sum, of a difference and of a product is, and how parts order numbers. -/
namespace Go.Proofs.YtpdmndlpgjjopaaGreatDoor
set_option linter.unusedVariables false
namespace Wd

/-- the part number i of v. -/
def dg (v i : Nat) : Nat := v / 4294967296 ^ i % 4294967296
end Wd
end Go.Proofs.YtpdmndlpgjjopaaGreatDoor

/- Contracts of the reference's numbers of 192 bits: a row of six parts in memory says a number; add, less, cmp, zero. -/
namespace Go.Proofs.YtpdmndlpgjjopaaGreatDoor
open Go.RowKit
set_option linter.unusedVariables false

/-- the six cells of block b say the number v. -/
def Row (w : World) (b v : Nat) : Prop := v < 4294967296 ^ 6 ∧ b < w.heap.size ∧ ∀ i, i < 6 → w.cell? ⟨b, i, none⟩ = some (.int .u64 ((Wd.dg v i : Nat) : Int))
theorem Row.below {w w' : World} {B b v : Nat} (h : Row w b v) (hb : Below B w w') (hB : b < B) : Row w' b v :=
  ⟨h.1, Nat.lt_of_lt_of_le h.2.1 hb.size, fun i hi => (hb.cell (p := ⟨b, i, none⟩) hB).trans (h.2.2 i hi)⟩
theorem Row.drew {w : World} {b v : Nat} (h : Row w b v) : Row w.drew b v := h
/-- a block of the call's own, of six parts. -/
structure Part (w wr : World) (N : Nat) (f : Nat → Nat) : Prop where
  below : Below N w wr
  size : N < wr.heap.size
  cell : ∀ j, j < 6 → wr.cell? ⟨N, j, none⟩ = some (.int .u64 ((f j : Nat) : Int))
  free : ∀ j, j < 6 → wr.frozen? ⟨N, j, none⟩ = false
theorem Part.congr {w wr : World} {N : Nat} {f g : Nat → Nat} (h : Part w wr N f) (e : ∀ j, j < 6 → f j = g j) : Part w wr N g :=
  ⟨h.below, h.size, fun j hj => by rw [← e j hj]; exact h.cell j hj, h.free⟩
theorem Part.drew {w wr : World} {N : Nat} {f : Nat → Nat} (h : Part w wr N f) : Part w wr.drew N f := ⟨h.below.drew, h.size, h.cell, h.free⟩
theorem Part.set {w wr : World} {N k x : Nat} {f : Nat → Nat} (h : Part w wr N f) (hk : k < 6) : Part w (wr.setCell ⟨N, k, none⟩ (.int .u64 (x : Int))) N (fun j => if j = k then x else f j) := by
  refine ⟨h.below.setCell (Nat.le_refl _) _, by simpa [World.setCell] using h.size, fun j hj => ?_, fun j hj => ?_⟩
  · by_cases e : j = k
    · subst e
      rw [if_pos rfl]
      exact World.cell?_setCell_same _ _ _ (h.cell j hj)
    · rw [if_neg e]
      exact (World.cell?_setCell_other _ _ _ _ (fun x => by cases x; exact e rfl)).trans (h.cell j hj)
  · rw [World.frozen?_setCell]; exact h.free j hj

theorem Part.row {w wr : World} {N v : Nat} (h : Part w wr N (fun j => Wd.dg v j)) (hv : v < 4294967296 ^ 6) : Row wr N v := ⟨hv, h.size, h.cell⟩

end Go.Proofs.YtpdmndlpgjjopaaGreatDoor

/- Contracts, more: the reference's Plus, Minus, Of, Small over numbers of 192 bits with a sign. -/
namespace Go.Proofs.YtpdmndlpgjjopaaGreatDoor
open Go.RowKit
set_option linter.unusedVariables false

theorem Row.alloc {w : World} {b v : Nat} (h : Row w b v) (o : Obj) : Row (w.alloc o) b v :=
  h.below ((Below.refl w.heap.size w).alloc (Nat.le_refl _) o) h.2.1

theorem Row.setCell {w : World} {b v : Nat} (h : Row w b v) {a : Addr} (ha : a.block ≠ b) (x : Value) : Row (w.setCell a x) b v :=
  ⟨h.1, by simpa [World.setCell] using h.2.1, fun i hi => (World.cell?_setCell_other _ _ _ _ (fun e => ha (by rw [e]))).trans (h.2.2 i hi)⟩

end Go.Proofs.YtpdmndlpgjjopaaGreatDoor

/- Contracts, more: the reference's Minus, and Plus of two numbers of different signs whose first is not the lesser one. -/
namespace Go.Proofs.YtpdmndlpgjjopaaGreatDoor
open Go.RowKit
set_option linter.unusedVariables false

end Go.Proofs.YtpdmndlpgjjopaaGreatDoor

/- Contracts, more: the reference's Plus of two numbers of different signs. -/
namespace Go.Proofs.YtpdmndlpgjjopaaGreatDoor
open Go.RowKit
set_option linter.unusedVariables false

end Go.Proofs.YtpdmndlpgjjopaaGreatDoor

/- Contracts, more: the reference's Plus of a number below nought and one above that is not the greater one; Minus of a number that is not below nought. -/
namespace Go.Proofs.YtpdmndlpgjjopaaGreatDoor
open Go.RowKit
set_option linter.unusedVariables false

end Go.Proofs.YtpdmndlpgjjopaaGreatDoor

/- Contracts, more: the reference's Of and Small. -/
namespace Go.Proofs.YtpdmndlpgjjopaaGreatDoor
open Go.RowKit
set_option linter.unusedVariables false

end Go.Proofs.YtpdmndlpgjjopaaGreatDoor

/- Contracts, more: the reference's Plus and Minus of numbers with their signs; Add, Sub, Neg of the reference, and num.Sub, num.Neg. -/
namespace Go.Proofs.YtpdmndlpgjjopaaGreatDoor
open Go.RowKit
set_option linter.unusedVariables false

/-- a number of 192 bits as a value: its sign (nought has none) and its row. -/
def IsW (w : World) (v : Value) (x : Int) : Prop := ∃ b, v = .agg #[.bool (decide (x < 0)), .slice (some ⟨b, 0, none⟩) 6 6] ∧ Row w b x.natAbs
theorem IsW.below {w w1 : World} {v : Value} {x : Int} (h : IsW w v x) (hb : Below w.heap.size w w1) : IsW w1 v x := by
  obtain ⟨b, hv, hr⟩ := h
  exact ⟨b, hv, hr.below hb hr.2.1⟩

end Go.Proofs.YtpdmndlpgjjopaaGreatDoor

/- Contracts, more: Add, Sub, Neg of the reference, and num.Sub, num.Neg. -/
namespace Go.Proofs.YtpdmndlpgjjopaaGreatDoor
open Go.RowKit
set_option linter.unusedVariables false

end Go.Proofs.YtpdmndlpgjjopaaGreatDoor

/- The reference's Times: the product of two numbers of 64 bits with their signs. -/
namespace Go.Proofs.YtpdmndlpgjjopaaGreatDoor
open Go.RowKit
set_option linter.unusedVariables false

end Go.Proofs.YtpdmndlpgjjopaaGreatDoor

/- Contract of the reference's Times. -/
namespace Go.Proofs.YtpdmndlpgjjopaaGreatDoor
open Go.RowKit
set_option linter.unusedVariables false

end Go.Proofs.YtpdmndlpgjjopaaGreatDoor

/- Contracts: the reference's Times of numbers with their signs, and its Mul. -/
namespace Go.Proofs.YtpdmndlpgjjopaaGreatDoor
open Go.RowKit
set_option linter.unusedVariables false

end Go.Proofs.YtpdmndlpgjjopaaGreatDoor

/- Mathematics of the reference's divide: one bit after another. -/
namespace Go.Proofs.YtpdmndlpgjjopaaGreatDoor
open Go.RowKit
set_option linter.unusedVariables false

end Go.Proofs.YtpdmndlpgjjopaaGreatDoor

/- Contract of the reference's divide. -/
namespace Go.Proofs.YtpdmndlpgjjopaaGreatDoor
open Go.RowKit
set_option linter.unusedVariables false

theorem Part.keep {w wr wr' : World} {N : Nat} {f : Nat → Nat} (h : Part w wr N f) (b : Below (N + 1) wr wr') : Part w wr' N f :=
  ⟨h.below.trans (b.mono (by omega)), Nat.lt_of_lt_of_le h.size b.size, fun j hj => (b.cell (p := ⟨N, j, none⟩) (Nat.lt_succ_self _)).trans (h.cell j hj), fun j hj => (b.frozen (p := ⟨N, j, none⟩) (Nat.lt_succ_self _)).trans (h.free j hj)⟩

end Go.Proofs.YtpdmndlpgjjopaaGreatDoor

/- Contract of the reference's Over. -/
namespace Go.Proofs.YtpdmndlpgjjopaaGreatDoor
open Go.RowKit
set_option linter.unusedVariables false

theorem over_math (x c : Int) (hc : c ≠ 0) : x.fdiv c = if (decide (x < 0) != decide (c < 0)) = true then (if x.natAbs % c.natAbs = 0 then -((x.natAbs / c.natAbs : Nat) : Int) else -((x.natAbs / c.natAbs : Nat) : Int) - 1) else ((x.natAbs / c.natAbs : Nat) : Int) := by
  have h := scale_math x 1 c x.natAbs c.natAbs (by simp) rfl hc
  rw [Int.mul_one, show decide ((1 : Int) < 0) = false from rfl, Bool.bne_false] at h
  exact h

end Go.Proofs.YtpdmndlpgjjopaaGreatDoor

/- Contracts: the reference's Scale, Div and Mod. -/
namespace Go.Proofs.YtpdmndlpgjjopaaGreatDoor
open Go.RowKit
set_option linter.unusedVariables false

end Go.Proofs.YtpdmndlpgjjopaaGreatDoor

/- Contracts: the reference's Mod; num.Div and num.Mod for every two numbers. -/
namespace Go.Proofs.YtpdmndlpgjjopaaGreatDoor
open Go.RowKit
set_option linter.unusedVariables false

theorem fdiv_in (a b : Int) (h1 : -9223372036854775808 ≤ a) (h2 : a ≤ 9223372036854775807) (hb : b ≠ 0) (h : a ≠ -9223372036854775808 ∨ b ≠ -1) : -9223372036854775808 ≤ a.fdiv b ∧ a.fdiv b ≤ 9223372036854775807 := by
  have hm := over_math a b hb
  by_cases o : b.natAbs = 1
  · rw [o, Nat.div_one, Nat.mod_one, if_pos rfl] at hm
    rw [hm]
    rcases (show b = 1 ∨ b = -1 by omega) with rfl | rfl
    · split
      · omega
      · rename_i hs
        have : ¬ a < 0 := fun hn => hs (by rw [decide_eq_true hn]; rfl)
        omega
    · split <;> omega
  · have hq : a.natAbs / b.natAbs ≤ a.natAbs / 2 := Nat.div_le_div_left (by omega) (by decide)
    generalize a.natAbs / b.natAbs = Q at *
    generalize a.natAbs % b.natAbs = R at *
    rw [hm]
    split
    · split <;> omega
    · omega
theorem div_any (a b : Int) (h1 : -9223372036854775808 ≤ a) (h2 : a ≤ 9223372036854775807) (h3 : -9223372036854775808 ≤ b) (h4 : b ≤ 9223372036854775807) (hb : b ≠ 0) (w : World) :
    Calls Tryz.prog 58 #[.int .i64 a, .int .i64 b] w fun e w' => e = .returned (.tuple #[.int .i64 (smV (a.fdiv b)), .int .i64 (smE (a.fdiv b))]) ∧ w' = w := by
  by_cases h : a ≠ -9223372036854775808 ∨ b ≠ -1
  · obtain ⟨g1, g2⟩ := fdiv_in a b h1 h2 hb h
    rw [smV_in g1 g2, smE_in g1 g2]
    exact div_in a b h1 h2 h3 h4 hb h w
  · obtain ⟨rfl, rfl⟩ : a = -9223372036854775808 ∧ b = -1 := by omega
    have e : (-9223372036854775808 : Int).fdiv (-1) = 9223372036854775808 := by decide
    rw [e, smV_out (by omega), smE_out (by omega)]
    exact div_edge w

end Go.Proofs.YtpdmndlpgjjopaaGreatDoor
