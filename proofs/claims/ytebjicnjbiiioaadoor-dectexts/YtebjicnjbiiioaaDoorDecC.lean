/- Contracts of dec.level in one, dec.Add, dec.Sub, dec.Mul: sums, differences, products. -/
import Derived.Test.YtebjicnjbiiioaaDoorDecB
namespace Go.Proofs.YtebjicnjbiiioaaDoor
open Go.RowKit
set_option linter.unusedVariables false

theorem sm_ok {x : Int} (h : smE x = 0) : (-9223372036854775808 ≤ x ∧ x ≤ 9223372036854775807) ∧ smV x = x := by
  unfold smE at h
  by_cases l : -9223372036854775808 ≤ x ∧ x ≤ 9223372036854775807
  · exact ⟨l, if_pos l⟩
  · rw [if_neg l] at h; exact absurd h (by decide)
theorem sm_bad {x : Int} (h : smE x ≠ 0) : smE x = 10 ∧ smV x = 0 := by
  unfold smE smV at *
  by_cases l : -9223372036854775808 ≤ x ∧ x ≤ 9223372036854775807
  · rw [if_pos l] at h; exact absurd rfl h
  · rw [if_neg l, if_neg l]; exact ⟨rfl, rfl⟩
theorem sm_of (x : Int) : ofN (smV x) (smE x) = ofN x (smE x) := by
  by_cases h : smE x = 0
  · rw [(sm_ok h).2]
  · rw [(of_err h (smV x) 0).1, (of_err h x 0).1]

/-- both at the greater Scale. -/
def la (xn xs yn ys : Int) : Int := xn * Dm.ten (max xs ys - xs).toNat
def lb (xn xs yn ys : Int) : Int := yn * Dm.ten (max xs ys - ys).toNat
def levE (xn xs yn ys : Int) : Int := if rt xs = true ∧ rt ys = true then (if smE (la xn xs yn ys) = 0 ∧ smE (lb xn xs yn ys) = 0 then 0 else 10) else 1

theorem lift_at (n s c : Int) (h1 : -9223372036854775808 ≤ n) (h2 : n ≤ 9223372036854775807) (hs : rt s = true) (hc : rt c = true) (hsc : s ≤ c) (w : World) :
    Calls Tryd.prog 63 #[.agg #[.int .i64 n, .int .i64 s], .int .i64 c] w fun e w' =>
      e = .returned (.tuple #[.agg #[.int .i64 (ofN (n * Dm.ten (c - s).toNat) (smE (n * Dm.ten (c - s).toNat))), .int .i64 (ofS c (smE (n * Dm.ten (c - s).toNat)))], .int .i64 (smE (n * Dm.ten (c - s).toNat))]) ∧ Below w.heap.size w w' := by
  obtain ⟨a, ha, rfl⟩ := nat_of_rt hs
  obtain ⟨b, hb, rfl⟩ := nat_of_rt hc
  have h := lift_any n a b h1 h2 (by omega) hb w
  rw [sm_of, show b - a = ((b : Int) - (a : Int)).toNat by omega] at h
  exact h

theorem rt_max {x y : Int} (hx : rt x = true) (hy : rt y = true) : rt (max x y) = true := by
  rcases Int.le_total x y with h | h
  · rw [Int.max_eq_right h]; exact hy
  · rw [Int.max_eq_left h]; exact hx

/-- the three blocks of a function of two numbers that answers one. -/
abbrev lv3 (w : World) (xn xs yn ys : Int) : World := ((w.alloc (dbox xn xs)).alloc (dbox yn ys)).alloc (dbox 0 0)
def Three (w : World) (B : Nat) (xn xs yn ys : Int) : Prop := Box w B xn xs ∧ Box w (B + 1) yn ys ∧ Box w (B + 1 + 1) 0 0
theorem Three.new (w : World) (xn xs yn ys : Int) : Three (lv3 w xn xs yn ys) w.heap.size xn xs yn ys :=
  ⟨by have := ((Box.new w xn xs).alloc (dbox yn ys)).alloc (dbox 0 0); simpa using this,
   by have := (Box.new (w.alloc (dbox xn xs)) yn ys).alloc (dbox 0 0); simpa using this,
   by have := Box.new ((w.alloc (dbox xn xs)).alloc (dbox yn ys)) 0 0; simpa using this⟩
theorem Three.below {w w1 : World} {B : Nat} {xn xs yn ys : Int} (h : Three w B xn xs yn ys) (hb : Below w.heap.size w w1) : Three w1 B xn xs yn ys :=
  ⟨h.1.below hb h.1.1, h.2.1.below hb h.2.1.1, h.2.2.below hb h.2.2.1⟩
theorem lv3_below (w : World) (xn xs yn ys : Int) : Below w.heap.size w (lv3 w xn xs yn ys) := (by repeat' (first | assumption | exact Below.refl _ _ | exact Nat.le_refl _ | refine Below.alloc ?_ ?_ _ | (simp; done) | (simp; omega) | omega))

/-- a store into another block leaves it a box. -/
theorem Box.other {w : World} {b c : Nat} {n s : Int} (h : Box w b n s) (hc : c ≠ b) (x y : Value) : Box ((w.setCell ⟨c, 0, none⟩ x).setCell ⟨c, 1, none⟩ y) b n s := by
  obtain ⟨h1, h2, h3, h4, h5⟩ := h
  exact ⟨by simpa [World.setCell] using h1, (keep2 hc _ _ _).trans h2, (keep2 hc _ _ _).trans h3, by simpa using h4, by simpa using h5⟩

/-- its error. -/
def addE (xn xs yn ys : Int) : Int := if levE xn xs yn ys = 0 then smE (la xn xs yn ys + lb xn xs yn ys) else levE xn xs yn ys

/-- its error. -/
def subE (xn xs yn ys : Int) : Int := if levE xn xs yn ys = 0 then smE (la xn xs yn ys - lb xn xs yn ys) else levE xn xs yn ys

end Go.Proofs.YtebjicnjbiiioaaDoor
