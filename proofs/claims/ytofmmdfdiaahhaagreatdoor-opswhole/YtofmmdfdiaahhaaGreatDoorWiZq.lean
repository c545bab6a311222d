/- WideMath, WideA, WideB, WideM, WideC, WideD, WideE, WideF, WideG, WideT, WideU, WideV, WideX, WideY, WideZ, WideQ, WideS, as one text. -/
import Derived.Test.YtofmmdfdiaahhaaGreatDoorNmZq
import Derived.RegionTactic
import Derived.ChangeAlike
import Derived.Deep.RegionWith
import Derived.Deep.DeepMust
import Derived.Deep.RegionHeld3
import Derived.Deep.QuietTactic
import Derived.BigQuiet
import Derived.Test.YtofmmdfdiaahhaaGreatDoorNmZq
/- Plain mathematics of numbers in parts of 32 bits: what one part of a sum, of a difference and of a product is, and how parts order numbers. -/
namespace Go.Proofs.YtofmmdfdiaahhaaGreatDoor
set_option linter.unusedVariables false
namespace Wd

/-- the part number i of v. -/
def dg (v i : Nat) : Nat := v / 4294967296 ^ i % 4294967296
end Wd
end Go.Proofs.YtofmmdfdiaahhaaGreatDoor

/- Contracts of the reference's numbers of 192 bits: a row of six parts in memory says a number; add, less, cmp, zero. -/
namespace Go.Proofs.YtofmmdfdiaahhaaGreatDoor
open Go.RowKit
set_option linter.unusedVariables false

/-- the six cells of block b say the number v. -/
def Row (w : World) (b v : Nat) : Prop := v < 4294967296 ^ 6 ∧ b < w.heap.size ∧ ∀ i, i < 6 → w.cell? ⟨b, i, none⟩ = some (.int .u64 ((Wd.dg v i : Nat) : Int))
theorem Row.below {w w' : World} {B b v : Nat} (h : Row w b v) (hb : Below B w w') (hB : b < B) : Row w' b v :=
  ⟨h.1, Nat.lt_of_lt_of_le h.2.1 hb.size, fun i hi => (hb.cell (p := ⟨b, i, none⟩) hB).trans (h.2.2 i hi)⟩
theorem Row.drew {w : World} {b v : Nat} (h : Row w b v) : Row w.drew b v := h
/-- a block of the call's own, of six parts. -/
structure Part (w wr : World) (N : Nat) (f : Nat → Nat) : Prop where
  below : Below N w wr
  size : N < wr.heap.size
  cell : ∀ j, j < 6 → wr.cell? ⟨N, j, none⟩ = some (.int .u64 ((f j : Nat) : Int))
  free : ∀ j, j < 6 → wr.frozen? ⟨N, j, none⟩ = false
theorem Part.drew {w wr : World} {N : Nat} {f : Nat → Nat} (h : Part w wr N f) : Part w wr.drew N f := ⟨h.below.drew, h.size, h.cell, h.free⟩
end Go.Proofs.YtofmmdfdiaahhaaGreatDoor

/- Contracts, more: the reference's Plus, Minus, Of, Small over numbers of 192 bits with a sign. -/
namespace Go.Proofs.YtofmmdfdiaahhaaGreatDoor
open Go.RowKit
set_option linter.unusedVariables false

theorem Row.alloc {w : World} {b v : Nat} (h : Row w b v) (o : Obj) : Row (w.alloc o) b v :=
  h.below ((Below.refl w.heap.size w).alloc (Nat.le_refl _) o) h.2.1

end Go.Proofs.YtofmmdfdiaahhaaGreatDoor

/- Contracts, more: the reference's Minus, and Plus of two numbers of different signs whose first is not the lesser one. -/
namespace Go.Proofs.YtofmmdfdiaahhaaGreatDoor
open Go.RowKit
set_option linter.unusedVariables false

end Go.Proofs.YtofmmdfdiaahhaaGreatDoor

/- Contracts, more: the reference's Plus of two numbers of different signs. -/
namespace Go.Proofs.YtofmmdfdiaahhaaGreatDoor
open Go.RowKit
set_option linter.unusedVariables false

end Go.Proofs.YtofmmdfdiaahhaaGreatDoor

/- Contracts, more: the reference's Plus of a number below nought and one above that is not the greater one; Minus of a number that is not below nought. -/
namespace Go.Proofs.YtofmmdfdiaahhaaGreatDoor
open Go.RowKit
set_option linter.unusedVariables false

end Go.Proofs.YtofmmdfdiaahhaaGreatDoor

/- Contracts, more: the reference's Of and Small. -/
namespace Go.Proofs.YtofmmdfdiaahhaaGreatDoor
open Go.RowKit
set_option linter.unusedVariables false

end Go.Proofs.YtofmmdfdiaahhaaGreatDoor

/- Contracts, more: the reference's Plus and Minus of numbers with their signs; Add, Sub, Neg of the reference, and num.Sub, num.Neg. -/
namespace Go.Proofs.YtofmmdfdiaahhaaGreatDoor
open Go.RowKit
set_option linter.unusedVariables false

/-- a number of 192 bits as a value: its sign (nought has none) and its row. -/
def IsW (w : World) (v : Value) (x : Int) : Prop := ∃ b, v = .agg #[.bool (decide (x < 0)), .slice (some ⟨b, 0, none⟩) 6 6] ∧ Row w b x.natAbs
theorem IsW.below {w w1 : World} {v : Value} {x : Int} (h : IsW w v x) (hb : Below w.heap.size w w1) : IsW w1 v x := by
  obtain ⟨b, hv, hr⟩ := h
  exact ⟨b, hv, hr.below hb hr.2.1⟩

end Go.Proofs.YtofmmdfdiaahhaaGreatDoor

/- Contracts, more: Add, Sub, Neg of the reference, and num.Sub, num.Neg. -/
namespace Go.Proofs.YtofmmdfdiaahhaaGreatDoor
open Go.RowKit
set_option linter.unusedVariables false

set_option maxHeartbeats 400000 in
theorem wsub_in (a b : Int) (h1 : -9223372036854775808 ≤ a) (h2 : a ≤ 9223372036854775807) (h3 : -9223372036854775808 ≤ b) (h4 : b ≤ 9223372036854775807)
    (l1 : -9223372036854775808 ≤ a - b) (l2 : a - b ≤ 9223372036854775807) (w : World) :
    Calls Tryz.prog 29 #[.int .i64 a, .int .i64 b] w fun e w' => e = .returned (.tuple #[.int .i64 (a - b), .int .i64 0]) ∧ w' = w := by
  by_cases h : b < 0
  · have hs : a < a - b := by omega
    go_enter Tryz.func29, Tryz.ntmps29
    go_wp2
    go_ret2
    exact ⟨rfl, rfl⟩
  · have hs : ¬ a < a - b := by omega
    go_enter Tryz.func29, Tryz.ntmps29
    go_wp2
    go_ret2
    exact ⟨rfl, rfl⟩

set_option maxHeartbeats 400000 in
theorem wsub_out (a b : Int) (h1 : -9223372036854775808 ≤ a) (h2 : a ≤ 9223372036854775807) (h3 : -9223372036854775808 ≤ b) (h4 : b ≤ 9223372036854775807)
    (l : a - b < -9223372036854775808 ∨ 9223372036854775807 < a - b) (w : World) :
    Calls Tryz.prog 29 #[.int .i64 a, .int .i64 b] w fun e w' => e = .returned (.tuple #[.int .i64 0, .int .i64 10]) ∧ w' = w := by
  rcases l with l | l
  · have h : ¬ b < 0 := by omega
    have hs : a < wrap64 (a - b) := by unfold wrap64; omega
    clear l
    go_enter Tryz.func29, Tryz.ntmps29
    go_wp2
    go_ret2
    exact ⟨rfl, rfl⟩
  · have h : b < 0 := by omega
    have hs : ¬ a < wrap64 (a - b) := by unfold wrap64; omega
    clear l
    go_enter Tryz.func29, Tryz.ntmps29
    go_wp2
    go_ret2
    exact ⟨rfl, rfl⟩

theorem wsub_any (a b : Int) (h1 : -9223372036854775808 ≤ a) (h2 : a ≤ 9223372036854775807) (h3 : -9223372036854775808 ≤ b) (h4 : b ≤ 9223372036854775807) (w : World) :
    Calls Tryz.prog 29 #[.int .i64 a, .int .i64 b] w fun e w' => e = .returned (.tuple #[.int .i64 (smV (a - b)), .int .i64 (smE (a - b))]) ∧ w' = w := by
  by_cases l : -9223372036854775808 ≤ a - b ∧ a - b ≤ 9223372036854775807
  · rw [smV_in l.1 l.2, smE_in l.1 l.2]; exact wsub_in a b h1 h2 h3 h4 l.1 l.2 w
  · rw [smV_out (by omega), smE_out (by omega)]; exact wsub_out a b h1 h2 h3 h4 (by omega) w

end Go.Proofs.YtofmmdfdiaahhaaGreatDoor

/- The reference's Times: the product of two numbers of 64 bits with their signs. -/
namespace Go.Proofs.YtofmmdfdiaahhaaGreatDoor
open Go.RowKit
set_option linter.unusedVariables false

end Go.Proofs.YtofmmdfdiaahhaaGreatDoor

/- Contract of the reference's Times. -/
namespace Go.Proofs.YtofmmdfdiaahhaaGreatDoor
open Go.RowKit
set_option linter.unusedVariables false

end Go.Proofs.YtofmmdfdiaahhaaGreatDoor

/- Contracts: the reference's Times of numbers with their signs, and its Mul. -/
namespace Go.Proofs.YtofmmdfdiaahhaaGreatDoor
open Go.RowKit
set_option linter.unusedVariables false

end Go.Proofs.YtofmmdfdiaahhaaGreatDoor

/- Mathematics of the reference's divide: one bit after another. -/
namespace Go.Proofs.YtofmmdfdiaahhaaGreatDoor
open Go.RowKit
set_option linter.unusedVariables false

end Go.Proofs.YtofmmdfdiaahhaaGreatDoor

/- Contract of the reference's divide. -/
namespace Go.Proofs.YtofmmdfdiaahhaaGreatDoor
open Go.RowKit
set_option linter.unusedVariables false

end Go.Proofs.YtofmmdfdiaahhaaGreatDoor

/- Contract of the reference's Over. -/
namespace Go.Proofs.YtofmmdfdiaahhaaGreatDoor
open Go.RowKit
set_option linter.unusedVariables false

end Go.Proofs.YtofmmdfdiaahhaaGreatDoor

/- Contracts: the reference's Scale, Div and Mod. -/
namespace Go.Proofs.YtofmmdfdiaahhaaGreatDoor
open Go.RowKit
set_option linter.unusedVariables false

end Go.Proofs.YtofmmdfdiaahhaaGreatDoor

/- Contracts: the reference's Mod; num.Div and num.Mod for every two numbers. -/
namespace Go.Proofs.YtofmmdfdiaahhaaGreatDoor
open Go.RowKit
set_option linter.unusedVariables false

end Go.Proofs.YtofmmdfdiaahhaaGreatDoor
