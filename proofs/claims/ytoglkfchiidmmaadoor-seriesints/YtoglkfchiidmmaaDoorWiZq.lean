/- WideMath, WideA, WideB, WideM, WideC, WideD, WideE, WideF, WideG, WideT, WideU, WideV, WideX, WideY, WideZ, WideQ, WideS, as one text. -/
import Derived.Test.YtoglkfchiidmmaaDoorNmZq
import Derived.RegionTactic
import Derived.ChangeAlike
import Derived.Deep.RegionWith
import Derived.Deep.DeepMust
import Derived.Deep.RegionHeld3
import Derived.Deep.QuietTactic
import Derived.BigQuiet
import Derived.Test.YtoglkfchiidmmaaDoorNmZq
/- Plain mathematics of numbers in parts of 32 bits: what one part of a sum, of a difference and of a product is, and how parts order numbers. -/
namespace Go.Proofs.YtoglkfchiidmmaaDoor
set_option linter.unusedVariables false
namespace Wd

/-- the part number i of v. -/
def dg (v i : Nat) : Nat := v / 4294967296 ^ i % 4294967296
theorem dg_lt (v i : Nat) : dg v i < 4294967296 := Nat.mod_lt _ (by decide)
theorem pw_pos (i : Nat) : 0 < 4294967296 ^ i := Nat.pow_pos (by decide)
/-- what is carried into part i of a sum. -/
def cy (a b i : Nat) : Nat := (a % 4294967296 ^ i + b % 4294967296 ^ i) / 4294967296 ^ i
/-- what is borrowed from part i of a difference. -/
def bw (a b i : Nat) : Nat := if a % 4294967296 ^ i < b % 4294967296 ^ i then 1 else 0

theorem cy_zero (a b : Nat) : cy a b 0 = 0 := by unfold cy; simp [Nat.mod_one]
theorem bw_zero (a b : Nat) : bw a b 0 = 0 := by unfold bw; simp [Nat.mod_one]
theorem bw_01 (a b i : Nat) : bw a b i ≤ 1 := by unfold bw; split <;> omega
theorem mod_next (v p : Nat) : v % (p * 4294967296) = v % p + p * (v / p % 4294967296) := Nat.mod_mul

theorem sum_div (a b p : Nat) (hp : 0 < p) : (a + b) / p = a / p + b / p + (a % p + b % p) / p := by
  have e : a + b = (a % p + b % p) + p * (a / p + b / p) := by
    have h1 := Nat.div_add_mod a p
    have h2 := Nat.div_add_mod b p
    rw [Nat.mul_add]; omega
  rw [e, Nat.add_mul_div_left _ _ hp]
  omega

theorem cy_01 (a b i : Nat) : cy a b i ≤ 1 := by
  unfold cy
  have hp := pw_pos i
  generalize 4294967296 ^ i = p at *
  have h1 := Nat.mod_lt a hp
  have h2 := Nat.mod_lt b hp
  have : (a % p + b % p) / p < 2 := Nat.div_lt_of_lt_mul (by omega)
  omega

theorem add_dg (a b i : Nat) : (cy a b i + dg a i + dg b i) % 4294967296 = dg (a + b) i ∧ (cy a b i + dg a i + dg b i) / 4294967296 = cy a b (i + 1) := by
  unfold dg cy
  rw [Nat.pow_succ]
  have hp := pw_pos i
  generalize 4294967296 ^ i = p at *
  rw [sum_div a b p hp, mod_next a p, mod_next b p]
  have e : a % p + p * (a / p % 4294967296) + (b % p + p * (b / p % 4294967296)) = (a % p + b % p) + p * (a / p % 4294967296 + b / p % 4294967296) := by rw [Nat.mul_add]; omega
  rw [e, ← Nat.div_div_eq_div_mul, Nat.add_mul_div_left _ _ hp]
  generalize (a % p + b % p) / p = c
  generalize a / p = A
  generalize b / p = B
  constructor
  · omega
  · have : c + A % 4294967296 + B % 4294967296 = c + (A % 4294967296 + B % 4294967296) := by omega
    rw [this]

theorem sub_div (a b p : Nat) (hp : 0 < p) (h : b ≤ a) : (a - b) / p + b / p + (if a % p < b % p then 1 else 0) = a / p := by
  have h1 := Nat.div_add_mod a p
  have h2 := Nat.div_add_mod b p
  have l1 := Nat.mod_lt a hp
  have l2 := Nat.mod_lt b hp
  generalize a / p = A at *
  generalize b / p = B at *
  generalize a % p = x at *
  generalize b % p = y at *
  subst h1 h2
  by_cases c : x < y
  · rw [if_pos c]
    have hAB : B + 1 ≤ A := by
      by_cases g : A ≤ B
      · have := Nat.mul_le_mul_left p g; omega
      · omega
    obtain ⟨D, rfl⟩ : ∃ D, A = B + 1 + D := ⟨A - B - 1, by omega⟩
    have e : p * (B + 1 + D) + x - (p * B + y) = (p + x - y) + p * D := by rw [Nat.mul_add, Nat.mul_add]; omega
    rw [e, Nat.add_mul_div_left _ _ hp, Nat.div_eq_of_lt (by omega)]
    omega
  · rw [if_neg c]
    have hAB : B ≤ A := by
      by_cases g : B ≤ A
      · exact g
      · have := Nat.mul_le_mul_left p (show A + 1 ≤ B by omega)
        rw [Nat.mul_add] at this
        omega
    obtain ⟨D, rfl⟩ : ∃ D, A = B + D := ⟨A - B, by omega⟩
    have e : p * (B + D) + x - (p * B + y) = (x - y) + p * D := by rw [Nat.mul_add]; omega
    rw [e, Nat.add_mul_div_left _ _ hp, Nat.div_eq_of_lt (by omega)]
    omega

theorem lt_parts (p x y u v : Nat) (hu : u < p) (hv : v < p) : u + p * x < v + p * y ↔ x < y ∨ (x = y ∧ u < v) := by
  constructor
  · intro h
    by_cases c : x < y
    · exact .inl c
    · by_cases e : x = y
      · subst e; exact .inr ⟨rfl, by omega⟩
      · have := Nat.mul_le_mul_left p (show y + 1 ≤ x by omega)
        rw [Nat.mul_add] at this
        omega
  · rintro (h | ⟨rfl, h⟩)
    · have := Nat.mul_le_mul_left p (show x + 1 ≤ y by omega)
      rw [Nat.mul_add] at this
      omega
    · omega

theorem sub_dg (a b i : Nat) (h : b ≤ a) : (dg a i + 4294967296 - dg b i - bw a b i) % 4294967296 = dg (a - b) i ∧ 1 - (dg a i + 4294967296 - dg b i - bw a b i) / 4294967296 = bw a b (i + 1) := by
  have lb := bw_01 a b i
  have s := sub_div a b (4294967296 ^ i) (pw_pos i) h
  have hp := pw_pos i
  have e1 : bw a b (i + 1) = if a / 4294967296 ^ i % 4294967296 < b / 4294967296 ^ i % 4294967296 ∨ (a / 4294967296 ^ i % 4294967296 = b / 4294967296 ^ i % 4294967296 ∧ a % 4294967296 ^ i < b % 4294967296 ^ i) then 1 else 0 := by
    unfold bw
    rw [Nat.pow_succ, mod_next a, mod_next b]
    have := lt_parts (4294967296 ^ i) (a / 4294967296 ^ i % 4294967296) (b / 4294967296 ^ i % 4294967296) (a % 4294967296 ^ i) (b % 4294967296 ^ i) (Nat.mod_lt _ hp) (Nat.mod_lt _ hp)
    simp only [this]
  rw [e1]
  unfold dg bw at *
  generalize a / 4294967296 ^ i = A at *
  generalize b / 4294967296 ^ i = B at *
  generalize (a - b) / 4294967296 ^ i = D at *
  generalize a % 4294967296 ^ i = x at *
  generalize b % 4294967296 ^ i = y at *
  by_cases c : x < y
  · rw [if_pos c] at s lb ⊢
    constructor
    · omega
    · split <;> omega
  · rw [if_neg c] at s lb ⊢
    constructor
    · omega
    · split <;> omega

/-- the numbers above part i. -/
theorem top (a i : Nat) : a / 4294967296 ^ i = a / 4294967296 ^ (i + 1) * 4294967296 + dg a i := by
  unfold dg
  rw [Nat.pow_succ, ← Nat.div_div_eq_div_mul]
  omega
theorem top_eq {a b i : Nat} (h : a / 4294967296 ^ (i + 1) = b / 4294967296 ^ (i + 1)) (g : dg a i = dg b i) : a / 4294967296 ^ i = b / 4294967296 ^ i := by
  rw [top a, top b, h, g]
theorem top_lt {a b i : Nat} (h : a / 4294967296 ^ (i + 1) = b / 4294967296 ^ (i + 1)) (g : dg a i < dg b i) : a < b := by
  by_cases c : a < b
  · exact c
  · have := Nat.div_le_div_right (c := 4294967296 ^ i) (show b ≤ a by omega)
    rw [top a, top b, h] at this
    omega
theorem top_six {a : Nat} (h : a < 4294967296 ^ 6) : a / 4294967296 ^ 6 = 0 := Nat.div_eq_of_lt h
theorem top_zero (a : Nat) : a / 4294967296 ^ 0 = a := by simp

theorem dg_zero (i : Nat) : dg 0 i = 0 := by unfold dg; simp
end Wd
end Go.Proofs.YtoglkfchiidmmaaDoor

/- Contracts of the reference's numbers of 192 bits: a row of six parts in memory says a number; add, less, cmp, zero. -/
namespace Go.Proofs.YtoglkfchiidmmaaDoor
open Go.RowKit
set_option linter.unusedVariables false

/-- the six cells of block b say the number v. -/
def Row (w : World) (b v : Nat) : Prop := v < 4294967296 ^ 6 ∧ b < w.heap.size ∧ ∀ i, i < 6 → w.cell? ⟨b, i, none⟩ = some (.int .u64 ((Wd.dg v i : Nat) : Int))
theorem Row.below {w w' : World} {B b v : Nat} (h : Row w b v) (hb : Below B w w') (hB : b < B) : Row w' b v :=
  ⟨h.1, Nat.lt_of_lt_of_le h.2.1 hb.size, fun i hi => (hb.cell (p := ⟨b, i, none⟩) hB).trans (h.2.2 i hi)⟩
theorem Row.drew {w : World} {b v : Nat} (h : Row w b v) : Row w.drew b v := h
/-- a block of the call's own, of six parts. -/
structure Part (w wr : World) (N : Nat) (f : Nat → Nat) : Prop where
  below : Below N w wr
  size : N < wr.heap.size
  cell : ∀ j, j < 6 → wr.cell? ⟨N, j, none⟩ = some (.int .u64 ((f j : Nat) : Int))
  free : ∀ j, j < 6 → wr.frozen? ⟨N, j, none⟩ = false
theorem Part.congr {w wr : World} {N : Nat} {f g : Nat → Nat} (h : Part w wr N f) (e : ∀ j, j < 6 → f j = g j) : Part w wr N g :=
  ⟨h.below, h.size, fun j hj => by rw [← e j hj]; exact h.cell j hj, h.free⟩
theorem Part.drew {w wr : World} {N : Nat} {f : Nat → Nat} (h : Part w wr N f) : Part w wr.drew N f := ⟨h.below.drew, h.size, h.cell, h.free⟩
theorem Part.set {w wr : World} {N k x : Nat} {f : Nat → Nat} (h : Part w wr N f) (hk : k < 6) : Part w (wr.setCell ⟨N, k, none⟩ (.int .u64 (x : Int))) N (fun j => if j = k then x else f j) := by
  refine ⟨h.below.setCell (Nat.le_refl _) _, by simpa [World.setCell] using h.size, fun j hj => ?_, fun j hj => ?_⟩
  · by_cases e : j = k
    · subst e
      rw [if_pos rfl]
      exact World.cell?_setCell_same _ _ _ (h.cell j hj)
    · rw [if_neg e]
      exact (World.cell?_setCell_other _ _ _ _ (fun x => by cases x; exact e rfl)).trans (h.cell j hj)
  · rw [World.frozen?_setCell]; exact h.free j hj

theorem zeros (w : World) (E : TypeId) : Part w (w.alloc (.cells #[.int .u64 0, .int .u64 0, .int .u64 0, .int .u64 0, .int .u64 0, .int .u64 0] E)) w.heap.size (fun _ => 0) := by
  refine ⟨(Below.refl _ _).alloc (Nat.le_refl _) _, by simp, fun j hj => ?_, fun j hj => World.frozen?_alloc_at _ _ _ _ rfl⟩
  rw [World.cell?_alloc_at _ _ _ _ rfl]
  match j, hj with
  | 0, _ => rfl
  | 1, _ => rfl
  | 2, _ => rfl
  | 3, _ => rfl
  | 4, _ => rfl
  | 5, _ => rfl

theorem wret_bool {a b : Bool} (h : a = b) : Ending.returned (.bool a) = .returned (.bool b) := by rw [h]

theorem make_six (w : World) : (Instr.makeSlice 38 (.int .i64 6) (.int .i64 6)).run Tryd.prog w = .ok (.slice (some ⟨w.heap.size, 0, none⟩) 6 6) (w.alloc (.cells #[.int .u64 0, .int .u64 0, .int .u64 0, .int .u64 0, .int .u64 0, .int .u64 0] 26)) := by kernel_rfl

theorem add_cells (a b k : Nat) : bits .and .u64 ((Wd.cy a b k : Int) + (Wd.dg a k : Int) + (Wd.dg b k : Int)) 4294967295 = ((Wd.dg (a + b) k : Nat) : Int) ∧ ((Wd.cy a b k : Int) + (Wd.dg a k : Int) + (Wd.dg b k : Int)) / 4294967296 = ((Wd.cy a b (k + 1) : Nat) : Int) := by
  obtain ⟨e1, e2⟩ := Wd.add_dg a b k
  have l0 := Wd.cy_01 a b k
  have l1 := Wd.dg_lt a k
  have l2 := Wd.dg_lt b k
  rw [castAdd, castAdd, andLow _ (by omega), castDiv, e1, e2]
  exact ⟨rfl, rfl⟩

set_option maxRecDepth 100000 in
set_option maxHeartbeats 1000000 in
theorem radd_any (ba bb va vb : Nat) (w : World) (ha : Row w ba va) (hb : Row w bb vb) :
    Calls Tryd.prog 23 #[.slice (some ⟨ba, 0, none⟩) 6 6, .slice (some ⟨bb, 0, none⟩) 6 6] w fun e w' => e = .returned (.slice (some ⟨w.heap.size, 0, none⟩) 6 6) ∧ Part w w' w.heap.size (fun j => Wd.dg (va + vb) j) := by
  have hmk := make_six
  have la := ha.2.1
  have lb := hb.2.1
  go_enter Tryd.func23, Tryd.ntmps23
  go_wp2_with fail
  clear hmk
  go_loopw [6, 7] (fun c i wr => ∃ k : Nat, k ≤ 6 ∧ i = .int .i64 k ∧ c = .int .u64 ((Wd.cy va vb k : Nat) : Int) ∧ Part w wr w.heap.size (fun j => if j < k then Wd.dg (va + vb) j else 0)) (fun _ i _ => 6 - (intOf i).toNat)
  case atStart => exact ⟨0, by omega, rfl, by rw [Wd.cy_zero]; rfl, (zeros w _).congr (fun j _ => by simp)⟩
  case round =>
    obtain ⟨k, hk, rfl, rfl, hP⟩ := hrel
    by_cases hlt : k < 6
    · have ca : wr.cell? ⟨ba, k, none⟩ = some (.int .u64 ((Wd.dg va k : Nat) : Int)) := (hP.below.cell (p := ⟨ba, k, none⟩) la).trans (ha.2.2 k hlt)
      have cb : wr.cell? ⟨bb, k, none⟩ = some (.int .u64 ((Wd.dg vb k : Nat) : Int)) := (hP.below.cell (p := ⟨bb, k, none⟩) lb).trans (hb.2.2 k hlt)
      have cN := hP.cell k hlt
      have fN := hP.free k hlt
      obtain ⟨e1, e2⟩ := add_cells va vb k
      have l0 := Wd.cy_01 va vb k
      have l1 := Wd.dg_lt va k
      have l2 := Wd.dg_lt vb k
      have hS := Part.set (x := Wd.dg (va + vb) k) hP.drew hlt
      have HS : Hid (Part w (wr.drew.setCell ⟨w.heap.size, k, none⟩ (.int .u64 ((Wd.dg (va + vb) k : Nat) : Int))) w.heap.size (fun j => if j < k + 1 then Wd.dg (va + vb) j else 0)) := hS.congr (fun j _ => by
        by_cases g : j = k
        · subst g; simp
        · by_cases g2 : j < k
          · simp [g, g2, Nat.lt_succ_of_lt g2]
          · simp [g, g2, show ¬ j < k + 1 by omega])
      have HC : Hid (Wd.cy va vb (k + 1) = Wd.cy va vb (k + 1)) := rfl
      generalize Wd.cy va vb k = C at *
      generalize hC' : Wd.cy va vb (k + 1) = C' at *
      have HC' : Hid (Wd.cy va vb (k + 1) = C') := hC'
      generalize Wd.dg va k = x at *
      generalize Wd.dg vb k = y at *
      generalize Wd.dg (va + vb) k = z at *
      clear hS hP hC' HC
      go_wp2
      go_region
      all_goals (try go_wp2)
      exact ⟨⟨k + 1, by omega, by go_num, by rw [HC'.out], HS.out⟩, by simp [intOf]; omega⟩
    · have HP : Hid (Part w wr w.heap.size (fun j => Wd.dg (va + vb) j)) := hP.congr (fun j hj => by simp [show j < k by omega])
      clear hP
      go_wp2
      go_ret
      exact ⟨rfl, HP.out⟩

theorem less_cells (a b k : Nat) (h : b ≤ a) : ∃ q : Nat, bits .and .u64 ((Wd.dg a k : Int) + 4294967296 - (Wd.dg b k : Int) - (Wd.bw a b k : Int)) 4294967295 = ((Wd.dg (a - b) k : Nat) : Int) ∧ ((Wd.dg a k : Int) + 4294967296 - (Wd.dg b k : Int) - (Wd.bw a b k : Int)) / 4294967296 = (q : Int) ∧ (1 : Int) - (q : Int) = ((Wd.bw a b (k + 1) : Nat) : Int) := by
  obtain ⟨e1, e2⟩ := Wd.sub_dg a b k h
  have l0 := Wd.bw_01 a b k
  have l1 := Wd.dg_lt a k
  have l2 := Wd.dg_lt b k
  refine ⟨(Wd.dg a k + 4294967296 - Wd.dg b k - Wd.bw a b k) / 4294967296, ?_, ?_, ?_⟩
  · rw [← e1, show ((Wd.dg a k : Int) + 4294967296 - (Wd.dg b k : Int) - (Wd.bw a b k : Int)) = ((Wd.dg a k + 4294967296 - Wd.dg b k - Wd.bw a b k : Nat) : Int) by omega, andLow _ (by omega)]
  · rw [show ((Wd.dg a k : Int) + 4294967296 - (Wd.dg b k : Int) - (Wd.bw a b k : Int)) = ((Wd.dg a k + 4294967296 - Wd.dg b k - Wd.bw a b k : Nat) : Int) by omega, castDiv]
  · rw [← e2]; omega

set_option maxRecDepth 100000 in
set_option maxHeartbeats 1000000 in
theorem rless_any (ba bb va vb : Nat) (w : World) (ha : Row w ba va) (hb : Row w bb vb) (hle : vb ≤ va) :
    Calls Tryd.prog 25 #[.slice (some ⟨ba, 0, none⟩) 6 6, .slice (some ⟨bb, 0, none⟩) 6 6] w fun e w' => e = .returned (.slice (some ⟨w.heap.size, 0, none⟩) 6 6) ∧ Part w w' w.heap.size (fun j => Wd.dg (va - vb) j) := by
  have hmk := make_six
  have la := ha.2.1
  have lb := hb.2.1
  go_enter Tryd.func25, Tryd.ntmps25
  go_wp2_with fail
  clear hmk
  go_loopw [6, 7] (fun c i wr => ∃ k : Nat, k ≤ 6 ∧ i = .int .i64 k ∧ c = .int .u64 ((Wd.bw va vb k : Nat) : Int) ∧ Part w wr w.heap.size (fun j => if j < k then Wd.dg (va - vb) j else 0)) (fun _ i _ => 6 - (intOf i).toNat)
  case atStart => exact ⟨0, by omega, rfl, by rw [Wd.bw_zero]; rfl, (zeros w _).congr (fun j _ => by simp)⟩
  case round =>
    obtain ⟨k, hk, rfl, rfl, hP⟩ := hrel
    by_cases hlt : k < 6
    · have ca : wr.cell? ⟨ba, k, none⟩ = some (.int .u64 ((Wd.dg va k : Nat) : Int)) := (hP.below.cell (p := ⟨ba, k, none⟩) la).trans (ha.2.2 k hlt)
      have cb : wr.cell? ⟨bb, k, none⟩ = some (.int .u64 ((Wd.dg vb k : Nat) : Int)) := (hP.below.cell (p := ⟨bb, k, none⟩) lb).trans (hb.2.2 k hlt)
      have cN := hP.cell k hlt
      have fN := hP.free k hlt
      obtain ⟨q, e1, e2, e3⟩ := less_cells va vb k hle
      have l0 := Wd.bw_01 va vb k
      have l1 := Wd.dg_lt va k
      have l2 := Wd.dg_lt vb k
      have l3 := Wd.bw_01 va vb (k + 1)
      have hS := Part.set (x := Wd.dg (va - vb) k) hP.drew hlt
      have HS : Hid (Part w (wr.drew.setCell ⟨w.heap.size, k, none⟩ (.int .u64 ((Wd.dg (va - vb) k : Nat) : Int))) w.heap.size (fun j => if j < k + 1 then Wd.dg (va - vb) j else 0)) := hS.congr (fun j _ => by
        by_cases g : j = k
        · subst g; simp
        · by_cases g2 : j < k
          · simp [g, g2, Nat.lt_succ_of_lt g2]
          · simp [g, g2, show ¬ j < k + 1 by omega])
      generalize Wd.bw va vb k = C at *
      generalize hC' : Wd.bw va vb (k + 1) = C' at *
      have HC' : Hid (Wd.bw va vb (k + 1) = C') := hC'
      generalize Wd.dg va k = x at *
      generalize Wd.dg vb k = y at *
      generalize Wd.dg (va - vb) k = z at *
      have lq : q ≤ 1 := by omega
      clear hS hP hC'
      go_wp2
      go_region
      all_goals (try go_wp2)
      exact ⟨⟨k + 1, by omega, by go_num, by rw [HC'.out], HS.out⟩, by simp [intOf]; omega⟩
    · have HP : Hid (Part w wr w.heap.size (fun j => Wd.dg (va - vb) j)) := hP.congr (fun j hj => by simp [show j < k by omega])
      clear hP
      go_wp2
      go_ret
      exact ⟨rfl, HP.out⟩

/-- below, the same, above: -1, 0, 1. -/
def wcmpV (a b : Nat) : Int := if a < b then -1 else if b < a then 1 else 0
theorem cmpV_lt {a b : Nat} (h : a < b) : wcmpV a b = -1 := if_pos h
theorem cmpV_gt {a b : Nat} (h : b < a) : wcmpV a b = 1 := by unfold wcmpV; rw [if_neg (by omega), if_pos h]
theorem cmpV_eq {a b : Nat} (h : a = b) : wcmpV a b = 0 := by unfold wcmpV; rw [if_neg (by omega), if_neg (by omega)]

set_option maxRecDepth 100000 in
set_option maxHeartbeats 1000000 in
theorem rcmp_any (ba bb va vb : Nat) (w : World) (ha : Row w ba va) (hb : Row w bb vb) :
    Calls Tryd.prog 24 #[.slice (some ⟨ba, 0, none⟩) 6 6, .slice (some ⟨bb, 0, none⟩) 6 6] w fun e w' => e = .returned (.int .i64 (wcmpV va vb)) ∧ Below w.heap.size w w' := by
  have la := ha.2.1
  have lb := hb.2.1
  go_enter Tryd.func24, Tryd.ntmps24
  go_wp2_with fail
  go_loopw [5] (fun i wr => ∃ j : Int, -1 ≤ j ∧ j ≤ 5 ∧ i = .int .i64 j ∧ Below w.heap.size w wr ∧ va / 4294967296 ^ (j + 1).toNat = vb / 4294967296 ^ (j + 1).toNat) (fun i _ => (intOf i + 1).toNat)
  case atStart => exact ⟨5, by omega, by omega, rfl, Below.refl _ _, by rw [show ((5 : Int) + 1).toNat = 6 from rfl, Wd.top_six ha.1, Wd.top_six hb.1]⟩
  case round =>
    obtain ⟨j, j1, j2, rfl, hB, hT⟩ := hrel
    by_cases hge : 0 ≤ j
    · have ca : wr.cell? ⟨ba, j.toNat, none⟩ = some (.int .u64 ((Wd.dg va j.toNat : Nat) : Int)) := (hB.cell (p := ⟨ba, j.toNat, none⟩) la).trans (ha.2.2 j.toNat (by omega))
      have cb : wr.cell? ⟨bb, j.toNat, none⟩ = some (.int .u64 ((Wd.dg vb j.toNat : Nat) : Int)) := (hB.cell (p := ⟨bb, j.toNat, none⟩) lb).trans (hb.2.2 j.toNat (by omega))
      rw [show (j + 1).toNat = j.toNat + 1 by omega] at hT
      by_cases c1 : Wd.dg va j.toNat < Wd.dg vb j.toNat
      · have HV : Hid (wcmpV va vb = -1) := cmpV_lt (Wd.top_lt hT c1)
        have c1' : ((Wd.dg va j.toNat : Nat) : Int) < ((Wd.dg vb j.toNat : Nat) : Int) := by omega
        clear hT c1
        generalize Wd.dg va j.toNat = x at *
        generalize Wd.dg vb j.toNat = y at *
        go_wp2
        go_region
        all_goals (try go_wp2)
        go_ret
        exact ⟨ret_int HV.out.symm, hB.drew⟩
      · by_cases c2 : Wd.dg vb j.toNat < Wd.dg va j.toNat
        · have HV : Hid (wcmpV va vb = 1) := cmpV_gt (Wd.top_lt hT.symm c2)
          have c1' : ¬ ((Wd.dg va j.toNat : Nat) : Int) < ((Wd.dg vb j.toNat : Nat) : Int) := by omega
          have c2' : ((Wd.dg vb j.toNat : Nat) : Int) < ((Wd.dg va j.toNat : Nat) : Int) := by omega
          clear hT c1 c2
          generalize Wd.dg va j.toNat = x at *
          generalize Wd.dg vb j.toNat = y at *
          go_wp2
          go_region
          all_goals (try go_wp2)
          go_region
          all_goals (try go_wp2)
          go_ret
          exact ⟨ret_int HV.out.symm, hB.drew.drew⟩
        · have HT : Hid (va / 4294967296 ^ j.toNat = vb / 4294967296 ^ j.toNat) := Wd.top_eq hT (by omega)
          have c1' : ¬ ((Wd.dg va j.toNat : Nat) : Int) < ((Wd.dg vb j.toNat : Nat) : Int) := by omega
          have c2' : ¬ ((Wd.dg vb j.toNat : Nat) : Int) < ((Wd.dg va j.toNat : Nat) : Int) := by omega
          clear hT c1 c2
          generalize Wd.dg va j.toNat = x at *
          generalize Wd.dg vb j.toNat = y at *
          go_wp2
          go_region
          all_goals (try go_wp2)
          go_region
          all_goals (try go_wp2)
          exact ⟨⟨j - 1, by omega, by omega, rfl, hB.drew.drew, by rw [show (j - 1 + 1).toNat = j.toNat by omega]; exact HT.out⟩, by simp [intOf]; omega⟩
    · have HV : Hid (wcmpV va vb = 0) := by
        rw [show (j + 1).toNat = 0 by omega, Wd.top_zero, Wd.top_zero] at hT
        exact cmpV_eq hT
      clear hT
      go_wp2
      go_ret
      exact ⟨ret_int HV.out.symm, hB⟩

theorem Part.row {w wr : World} {N v : Nat} (h : Part w wr N (fun j => Wd.dg v j)) (hv : v < 4294967296 ^ 6) : Row wr N v := ⟨hv, h.size, h.cell⟩

set_option maxRecDepth 100000 in
set_option maxHeartbeats 400000 in
theorem rzero_any (ba va : Nat) (w : World) (ha : Row w ba va) :
    Calls Tryd.prog 26 #[.slice (some ⟨ba, 0, none⟩) 6 6] w fun e w' => e = .returned (.bool (decide (va = 0))) ∧ Below w.heap.size w w' := by
  have hmk := make_six
  have hz := (zeros w 26)
  have hr : Row _ w.heap.size 0 := (hz.congr (g := fun j => Wd.dg 0 j) (fun j _ => (Wd.dg_zero j).symm)).row (Wd.pw_pos 6)
  have C1 := rcmp_any ba w.heap.size va 0 _ (ha.below hz.below ha.2.1) hr
  have HB : Hid (Below w.heap.size w (w.alloc (.cells #[.int .u64 0, .int .u64 0, .int .u64 0, .int .u64 0, .int .u64 0, .int .u64 0] 26))) := hz.below
  have HC := C1
  clear hz hr
  by_cases h : va = 0
  · rw [cmpV_eq h] at C1
    have H1 : Hid (Calls Tryd.prog 24 #[.slice (some ⟨ba, 0, none⟩) 6 6, .slice (some ⟨w.heap.size, 0, none⟩) 6 6] (w.alloc (.cells #[.int .u64 0, .int .u64 0, .int .u64 0, .int .u64 0, .int .u64 0, .int .u64 0] 26)) fun e w' => e = .returned (.int .i64 0) ∧ Below (w.heap.size + 1) (w.alloc (.cells #[.int .u64 0, .int .u64 0, .int .u64 0, .int .u64 0, .int .u64 0, .int .u64 0] 26)) w') := by have c := C1; simp at c; exact c
    clear C1 HC
    go_enter Tryd.func26, Tryd.ntmps26
    go_wp2_with fail
    refine (H1.out).mono ?_
    rintro e w1 ⟨rfl, hb⟩
    go_wp2
    go_ret
    exact ⟨wret_bool (by simp [h]), HB.out.trans (hb.mono (by omega))⟩
  · rw [cmpV_gt (by omega)] at C1
    have H1 : Hid (Calls Tryd.prog 24 #[.slice (some ⟨ba, 0, none⟩) 6 6, .slice (some ⟨w.heap.size, 0, none⟩) 6 6] (w.alloc (.cells #[.int .u64 0, .int .u64 0, .int .u64 0, .int .u64 0, .int .u64 0, .int .u64 0] 26)) fun e w' => e = .returned (.int .i64 1) ∧ Below (w.heap.size + 1) (w.alloc (.cells #[.int .u64 0, .int .u64 0, .int .u64 0, .int .u64 0, .int .u64 0, .int .u64 0] 26)) w') := by have c := C1; simp at c; exact c
    clear C1 HC
    go_enter Tryd.func26, Tryd.ntmps26
    go_wp2_with fail
    refine (H1.out).mono ?_
    rintro e w1 ⟨rfl, hb⟩
    go_wp2
    go_ret
    exact ⟨wret_bool (by simp [h]), HB.out.trans (hb.mono (by omega))⟩

end Go.Proofs.YtoglkfchiidmmaaDoor

/- Contracts, more: the reference's Plus, Minus, Of, Small over numbers of 192 bits with a sign. -/
namespace Go.Proofs.YtoglkfchiidmmaaDoor
open Go.RowKit
set_option linter.unusedVariables false

theorem Row.alloc {w : World} {b v : Nat} (h : Row w b v) (o : Obj) : Row (w.alloc o) b v :=
  h.below ((Below.refl w.heap.size w).alloc (Nat.le_refl _) o) h.2.1

theorem size3 {w : World} (o1 o2 o3 : Obj) : (((w.alloc o1).alloc o2).alloc o3).heap.size = w.heap.size + 1 + 1 + 1 := by simp
theorem after3 {w w1 : World} {o1 o2 o3 : Obj} (h : Below (w.heap.size + 1 + 1 + 1) (((w.alloc o1).alloc o2).alloc o3) w1) :
    (∀ b o, b < w.heap.size + 1 + 1 + 1 → w1.cell? ⟨b, o, none⟩ = (((w.alloc o1).alloc o2).alloc o3).cell? ⟨b, o, none⟩) ∧ (∀ b o, b < w.heap.size + 1 + 1 + 1 → w1.frozen? ⟨b, o, none⟩ = (((w.alloc o1).alloc o2).alloc o3).frozen? ⟨b, o, none⟩) :=
  ⟨fun b o hb => h.cell (p := ⟨b, o, none⟩) hb, fun b o hb => h.frozen (p := ⟨b, o, none⟩) hb⟩

/-- a box of a number with a sign, as a cell's block. -/
abbrev box (n : Bool) (b : Nat) : Obj := .cells #[.bool n, .slice (some ⟨b, 0, none⟩) 6 6] 40
abbrev nobox : Obj := .cells #[.bool false, .slice none 0 0] 40

theorem three {w : World} (o1 o2 o3 : Obj) : Below w.heap.size w (((w.alloc o1).alloc o2).alloc o3) :=
  (((Below.refl _ _).alloc (Nat.le_refl _) _).alloc (by simp) _).alloc (by simp; omega) _

theorem Row.setCell {w : World} {b v : Nat} (h : Row w b v) {a : Addr} (ha : a.block ≠ b) (x : Value) : Row (w.setCell a x) b v :=
  ⟨h.1, by simpa [World.setCell] using h.2.1, fun i hi => (World.cell?_setCell_other _ _ _ _ (fun e => ha (by rw [e]))).trans (h.2.2 i hi)⟩

theorem wkeep2 {w1 : World} {N M : Nat} (h : M ≠ N) (x y : Value) (o : Nat) : ((w1.setCell ⟨M, 0, none⟩ x).setCell ⟨M, 1, none⟩ y).cell? ⟨N, o, none⟩ = w1.cell? ⟨N, o, none⟩ :=
  (World.cell?_setCell_other _ _ _ _ (fun e => h (by cases e; rfl))).trans (World.cell?_setCell_other _ _ _ _ (fun e => h (by cases e; rfl)))

/-- the three boxes, in a world that keeps them. -/
theorem boxes {w w1 : World} {n m : Bool} {ba bb : Nat} (h : Below (w.heap.size + 1 + 1 + 1) (((w.alloc (box n ba)).alloc (box m bb)).alloc nobox) w1) :
    w1.cell? ⟨w.heap.size, 0, none⟩ = some (.bool n) ∧ w1.cell? ⟨w.heap.size, 1, none⟩ = some (.slice (some ⟨ba, 0, none⟩) 6 6) ∧ w1.cell? ⟨w.heap.size + 1, 0, none⟩ = some (.bool m) ∧ w1.cell? ⟨w.heap.size + 1, 1, none⟩ = some (.slice (some ⟨bb, 0, none⟩) 6 6) ∧
    w1.cell? ⟨w.heap.size + 1 + 1, 0, none⟩ = some (.bool false) ∧ w1.cell? ⟨w.heap.size + 1 + 1, 1, none⟩ = some (.slice none 0 0) ∧ w1.frozen? ⟨w.heap.size + 1 + 1, 0, none⟩ = false ∧ w1.frozen? ⟨w.heap.size + 1 + 1, 1, none⟩ = false := by
  obtain ⟨hc, hf⟩ := after3 h
  refine ⟨?_, ?_, ?_, ?_, ?_, ?_, ?_, ?_⟩
  · rw [hc _ _ (by omega), World.cell?_alloc_past _ _ _ (by simp; omega), World.cell?_alloc_past _ _ _ (by simp), World.cell?_alloc_at _ _ _ _ rfl]; rfl
  · rw [hc _ _ (by omega), World.cell?_alloc_past _ _ _ (by simp; omega), World.cell?_alloc_past _ _ _ (by simp), World.cell?_alloc_at _ _ _ _ rfl]; rfl
  · rw [hc _ _ (by omega), World.cell?_alloc_past _ _ _ (by simp), World.cell?_alloc_at _ _ _ _ (by simp)]; rfl
  · rw [hc _ _ (by omega), World.cell?_alloc_past _ _ _ (by simp), World.cell?_alloc_at _ _ _ _ (by simp)]; rfl
  · rw [hc _ _ (by omega), World.cell?_alloc_at _ _ _ _ (by simp)]; rfl
  · rw [hc _ _ (by omega), World.cell?_alloc_at _ _ _ _ (by simp)]; rfl
  · rw [hf _ _ (by omega), World.frozen?_alloc_at _ _ _ _ (by simp)]
  · rw [hf _ _ (by omega), World.frozen?_alloc_at _ _ _ _ (by simp)]

set_option maxRecDepth 100000 in
set_option maxHeartbeats 1000000 in
theorem plus_same (n : Bool) (ba bb va vb : Nat) (w : World) (ha : Row w ba va) (hb : Row w bb vb) (hv : va + vb < 4294967296 ^ 6) :
    Calls Tryd.prog 15 #[.agg #[.bool n, .slice (some ⟨ba, 0, none⟩) 6 6], .agg #[.bool n, .slice (some ⟨bb, 0, none⟩) 6 6]] w fun e w' => ∃ b, e = .returned (.agg #[.bool n, .slice (some ⟨b, 0, none⟩) 6 6]) ∧ Below w.heap.size w w' ∧ w.heap.size ≤ b ∧ Row w' b (va + vb) := by
  have C1 := radd_any ba bb va vb (((w.alloc (box n ba)).alloc (box n bb)).alloc nobox).drew (((ha.alloc _).alloc _).alloc _) (((hb.alloc _).alloc _).alloc _)
  rw [show (((w.alloc (box n ba)).alloc (box n bb)).alloc nobox).drew.heap.size = w.heap.size + 1 + 1 + 1 from size3 _ _ _] at C1
  have HC : Hid (Calls Tryd.prog 23 #[.slice (some ⟨ba, 0, none⟩) 6 6, .slice (some ⟨bb, 0, none⟩) 6 6] (((w.alloc (box n ba)).alloc (box n bb)).alloc nobox).drew fun e w' => e = .returned (.slice (some ⟨w.heap.size + 1 + 1 + 1, 0, none⟩) 6 6) ∧ Part (((w.alloc (box n ba)).alloc (box n bb)).alloc nobox).drew w' (w.heap.size + 1 + 1 + 1) (fun j => Wd.dg (va + vb) j)) := C1
  clear C1
  go_enter Tryd.func15, Tryd.ntmps15
  go_wp2_with fail
  go_region_held3 (fun w' => w'.cell? ⟨w.heap.size, 0, none⟩ = some (.bool n) ∧ w'.cell? ⟨w.heap.size, 1, none⟩ = some (.slice (some ⟨ba, 0, none⟩) 6 6) ∧ w'.cell? ⟨w.heap.size + 1, 1, none⟩ = some (.slice (some ⟨bb, 0, none⟩) 6 6)) (((try dsimp only); (repeat' apply And.intro); (all_goals (first | assumption | (refine (wkeep2 ?_ _ _ _).trans ?_; omega; assumption) | go_keep)))) (first | (go_at_call 23; refine HC.out.mono ?_; rintro e w1 ⟨rfl, hP⟩; obtain ⟨c1, c2, c3, c4, c5, c6, f5, f6⟩ := boxes (Below.trans (Below.drew (Below.refl _ _)) hP.below); have hz := hP.size; have HP : Hid _ := hP; clear hP))
  all_goals
    go_wp2
    refine bodyPost_ret (v := .agg #[.bool n, .slice (some ⟨w.heap.size + 1 + 1 + 1, 0, none⟩) 6 6]) (by simp [results, Tryd.results15, go_sem, c5, c6]) rfl ⟨_, rfl, ?_⟩
    have hP := HP.out
    refine ⟨((((three _ _ _).drew).trans (hP.below.mono (by omega))).setCell (Nat.le_trans (Nat.le_add_right _ 2) (Nat.le_refl _)) _).setCell (Nat.le_trans (Nat.le_add_right _ 2) (Nat.le_refl _)) _, by omega, ?_⟩
    exact ((hP.row hv).setCell (Nat.ne_of_lt (Nat.lt_succ_self _)) _).setCell (Nat.ne_of_lt (Nat.lt_succ_self _)) _

set_option maxRecDepth 100000 in
set_option maxHeartbeats 1000000 in
theorem plus_lt (n m : Bool) (hnm : (n == m) = false) (ba bb va vb : Nat) (w : World) (ha : Row w ba va) (hb : Row w bb vb) (hlt : va < vb) :
    Calls Tryd.prog 15 #[.agg #[.bool n, .slice (some ⟨ba, 0, none⟩) 6 6], .agg #[.bool m, .slice (some ⟨bb, 0, none⟩) 6 6]] w fun e w' => ∃ b, e = .returned (.agg #[.bool m, .slice (some ⟨b, 0, none⟩) 6 6]) ∧ Below w.heap.size w w' ∧ w.heap.size ≤ b ∧ Row w' b (vb - va) := by
  have C1 := rcmp_any ba bb va vb (((w.alloc (box n ba)).alloc (box m bb)).alloc nobox) (((ha.alloc _).alloc _).alloc _) (((hb.alloc _).alloc _).alloc _)
  rw [cmpV_lt hlt, size3] at C1
  have HC : Hid (Calls Tryd.prog 24 #[.slice (some ⟨ba, 0, none⟩) 6 6, .slice (some ⟨bb, 0, none⟩) 6 6] (((w.alloc (box n ba)).alloc (box m bb)).alloc nobox) fun e w' => e = .returned (.int .i64 (-1)) ∧ Below (w.heap.size + 1 + 1 + 1) (((w.alloc (box n ba)).alloc (box m bb)).alloc nobox) w') := C1
  clear C1
  go_enter Tryd.func15, Tryd.ntmps15
  go_wp2_with fail
  refine HC.out.mono ?_
  rintro e w1 ⟨rfl, hB⟩
  have HB : Hid (Below (w.heap.size + 1 + 1 + 1) (((w.alloc (box n ba)).alloc (box m bb)).alloc nobox) w1) := hB
  have HA : Hid (Row w1 ba va) := ((((ha.alloc _).alloc _).alloc _).below hB (by have := ha.2.1; omega))
  have HA2 : Hid (Row w1 bb vb) := ((((hb.alloc _).alloc _).alloc _).below hB (by have := hb.2.1; omega))
  have HZ : Hid (w.heap.size + 1 + 1 + 1 ≤ w1.heap.size) := by have := hB.size; rw [size3] at this; exact this
  obtain ⟨c1, c2, c3, c4, c5, c6, f5, f6⟩ := boxes hB
  clear hB
  go_wp2_with fail
  go_region_held3 (fun w' => w'.cell? ⟨w.heap.size, 0, none⟩ = some (.bool n) ∧ w'.cell? ⟨w.heap.size, 1, none⟩ = some (.slice (some ⟨ba, 0, none⟩) 6 6) ∧ w'.cell? ⟨w.heap.size + 1, 0, none⟩ = some (.bool m) ∧ w'.cell? ⟨w.heap.size + 1, 1, none⟩ = some (.slice (some ⟨bb, 0, none⟩) 6 6)) (((try dsimp only); (repeat' apply And.intro); (all_goals (first | assumption | (refine (wkeep2 ?_ _ _ _).trans ?_; omega; assumption) | go_keep)))) (first | (go_at_call 25; refine (rless_any bb ba vb va _ ?_ ?_ (Nat.le_of_lt hlt)).mono ?_; exact HA2.out; exact HA.out; rintro e w2 ⟨rfl, hP⟩; obtain ⟨c1, c2, c3, c4, c5, c6, f5, f6⟩ := boxes (HB.out.drew.trans (hP.below.mono HZ.out)); have HP : Hid _ := hP; clear hP))
  all_goals
    go_wp2
    refine bodyPost_ret (v := .agg #[.bool m, .slice (some ⟨w1.heap.size, 0, none⟩) 6 6]) (by simp [results, Tryd.results15, go_sem, c5, c6]) rfl ⟨_, rfl, ?_⟩
    have hP := HP.out
    have hz := HZ.out
    refine ⟨((((three _ _ _).trans (HB.out.drew.mono (by omega))).trans (hP.below.mono (Nat.le_trans (by omega) hz))).setCell (Nat.le_trans (Nat.le_add_right _ 2) (Nat.le_refl _)) _).setCell (Nat.le_trans (Nat.le_add_right _ 2) (Nat.le_refl _)) _, by omega, ?_⟩
    exact ((hP.row (Nat.lt_of_le_of_lt (Nat.sub_le _ _) hb.1)).setCell (show w.heap.size + 1 + 1 ≠ w1.heap.size from by omega) _).setCell (show w.heap.size + 1 + 1 ≠ w1.heap.size from by omega) _

end Go.Proofs.YtoglkfchiidmmaaDoor

/- Contracts, more: the reference's Minus, and Plus of two numbers of different signs whose first is not the lesser one. -/
namespace Go.Proofs.YtoglkfchiidmmaaDoor
open Go.RowKit
set_option linter.unusedVariables false

theorem two2 {w : World} (o1 o2 : Obj) : Below w.heap.size w ((w.alloc o1).alloc o2) := ((Below.refl _ _).alloc (Nat.le_refl _) _).alloc (by simp) _
theorem box0 {w : World} (n : Bool) (ba : Nat) (o : Obj) (i : Nat) : ((w.alloc (box n ba)).alloc o).cell? ⟨w.heap.size, i, none⟩ = (#[Value.bool n, .slice (some ⟨ba, 0, none⟩) 6 6] : Array Value)[i]? := by
  rw [World.cell?_alloc_past _ _ _ (by simp), World.cell?_alloc_at _ _ _ _ rfl]

set_option maxRecDepth 100000 in
set_option maxHeartbeats 1000000 in
theorem minus_true (ba va : Nat) (w : World) (ha : Row w ba va) :
    Calls Tryd.prog 17 #[.agg #[.bool true, .slice (some ⟨ba, 0, none⟩) 6 6]] w fun e w' => e = .returned (.agg #[.bool false, .slice (some ⟨ba, 0, none⟩) 6 6]) ∧ Below w.heap.size w w' := by
  go_enter Tryd.func17, Tryd.ntmps17
  go_wp2_with fail
  refine wp_region_held_drew (S := (fun w' => w'.cell? ⟨w.heap.size, 0, none⟩ = some (.bool true) ∧ w'.cell? ⟨w.heap.size, 1, none⟩ = some (.slice (some ⟨ba, 0, none⟩) 6 6))) (by kernel_rfl) ⟨box0 _ _ _ _, box0 _ _ _ _⟩ (fun hHeld => ?_)
  refine wpAnyH_take (i := 0) (v := ?_) rfl (by kernel_rfl) (by kernel_rfl) (by kernel_rfl) (fun _ _ _ h => h) (Or.inl ⟨by rfl, ?_⟩) (by assumption) ?_
  case refine_2 => (intro w9 hSw; (try dsimp only at hSw); obtain ⟨s0, s1⟩ := hSw; go_simp; try with_reducible rfl)
  refine wpAnyH_take (i := 1) (v := ?_) rfl (by kernel_rfl) (by kernel_rfl) (by kernel_rfl) (fun _ _ _ h => h) (Or.inl ⟨by rfl, ?_⟩) (by assumption) ?_
  case refine_2 => (intro w9 hSw; (try dsimp only at hSw); obtain ⟨s0, s1⟩ := hSw; go_simp; try with_reducible rfl)
  refine wpAnyH_take (i := 2) (v := ?_) rfl (by kernel_rfl) (by kernel_rfl) (by kernel_rfl) (fun _ _ _ h => h) (Or.inl ⟨by rfl, ?_⟩) (by assumption) ?_
  case refine_2 => (intro w9 hSw; (try dsimp only at hSw); obtain ⟨s0, s1⟩ := hSw; go_simp; try with_reducible rfl)
  refine wpAnyH_take (i := 3) (v := ?_) rfl (by kernel_rfl) (by kernel_rfl) (by kernel_rfl) (fun _ _ _ h => h) (Or.inl ⟨by rfl, ?_⟩) (by assumption) ?_
  case refine_2 => (intro w9 hSw; (try dsimp only at hSw); obtain ⟨s0, s1⟩ := hSw; go_simp; try with_reducible rfl)
  refine wpAnyH_take (i := 4) (v := undef) rfl (by kernel_rfl) (by kernel_rfl) (by kernel_rfl) (fun _ _ _ h => h) (Or.inr ⟨by rfl, rfl⟩) (by assumption) ?_
  refine wpAnyH_take (i := 5) (v := undef) rfl (by kernel_rfl) (by kernel_rfl) (by kernel_rfl) (fun _ _ _ h => h) (Or.inr ⟨by rfl, rfl⟩) (by assumption) ?_
  refine wpAnyH_take (i := 6) (v := undef) rfl (by kernel_rfl) (by kernel_rfl) (by kernel_rfl) (fun _ _ _ h => h) (Or.inr ⟨by rfl, rfl⟩) (by assumption) ?_
  refine wpAnyH_take (i := 7) (v := undef) rfl (by kernel_rfl) (by kernel_rfl) (by kernel_rfl) (fun _ _ _ h => h) (Or.inr ⟨by rfl, rfl⟩) (by assumption) ?_
  refine wpAnyH_take (i := 8) (v := ?_) rfl (by kernel_rfl) (by kernel_rfl) (by kernel_rfl) (fun _ _ _ h => h) (Or.inl ⟨by rfl, ?_⟩) (by assumption) ?_
  case refine_2 => (intro w9 hSw; (try dsimp only at hSw); obtain ⟨s0, s1⟩ := hSw; go_simp; try with_reducible rfl)
  refine wpAnyH_take (i := 9) (v := ?_) rfl (by kernel_rfl) (by kernel_rfl) (by kernel_rfl) (fun _ _ _ h => h) (Or.inl ⟨by rfl, ?_⟩) (by assumption) ?_
  case refine_2 => (intro w9 hSw; (try dsimp only at hSw); obtain ⟨s0, s1⟩ := hSw; go_simp; try with_reducible rfl)
  refine wpAnyH_take (i := 10) (v := ?_) rfl (by kernel_rfl) (by kernel_rfl) (by kernel_rfl) (fun _ _ _ h => h) (Or.inl ⟨by rfl, ?_⟩) (by assumption) ?_
  case refine_2 => (intro w9 hSw; (try dsimp only at hSw); obtain ⟨s0, s1⟩ := hSw; go_simp; try with_reducible rfl)
  refine wpAnyH_take (i := 11) (v := ?_) rfl (by kernel_rfl) (by kernel_rfl) (by kernel_rfl) (fun _ _ _ h => h) (Or.inl ⟨by rfl, ?_⟩) (by assumption) ?_
  case refine_2 => (intro w9 hSw; (try dsimp only at hSw); obtain ⟨s0, s1⟩ := hSw; go_simp; try with_reducible rfl)
  refine wpAnyH_ready (rs := [12]) (by kernel_rfl) (by simp) (AllReadyH.cons (o := { dst := none, op := _, type := _, pos := _, after := _, guard := none }) rfl (fun K hK => ?_) AllReadyH.nil)
  go_simp
  refine hK.out _ _ ⟨box0 _ _ _ _, box0 _ _ _ _⟩ (fun hHeld => ?_)
  clear hK K
  refine wpAnyH_done (by kernel_rfl) ?_ _
  go_wp2
  exact bodyPost_ret (v := .agg #[.bool false, .slice (some ⟨ba, 0, none⟩) 6 6]) (by simp [results, Tryd.results17, go_sem]) rfl ⟨rfl, (two2 _ _).drew⟩

end Go.Proofs.YtoglkfchiidmmaaDoor

/- Contracts, more: the reference's Plus of two numbers of different signs. -/
namespace Go.Proofs.YtoglkfchiidmmaaDoor
open Go.RowKit
set_option linter.unusedVariables false

set_option maxRecDepth 100000 in
set_option maxHeartbeats 2000000 in
theorem plus_ge_false (ba bb va vb : Nat) (w : World) (ha : Row w ba va) (hb : Row w bb vb) (hle : vb ≤ va) :
    Calls Tryd.prog 15 #[.agg #[.bool false, .slice (some ⟨ba, 0, none⟩) 6 6], .agg #[.bool true, .slice (some ⟨bb, 0, none⟩) 6 6]] w fun e w' => ∃ b, e = .returned (.agg #[.bool false, .slice (some ⟨b, 0, none⟩) 6 6]) ∧ Below w.heap.size w w' ∧ w.heap.size ≤ b ∧ Row w' b (va - vb) := by
  have C1 := rcmp_any ba bb va vb (((w.alloc (box false ba)).alloc (box true bb)).alloc nobox) (((ha.alloc _).alloc _).alloc _) (((hb.alloc _).alloc _).alloc _)
  rw [size3] at C1
  have hcv : 0 ≤ wcmpV va vb := by unfold wcmpV; split <;> (try split) <;> omega
  generalize wcmpV va vb = cv at *
  have HC : Hid (Calls Tryd.prog 24 #[.slice (some ⟨ba, 0, none⟩) 6 6, .slice (some ⟨bb, 0, none⟩) 6 6] (((w.alloc (box false ba)).alloc (box true bb)).alloc nobox) fun e w' => e = .returned (.int .i64 cv) ∧ Below (w.heap.size + 1 + 1 + 1) (((w.alloc (box false ba)).alloc (box true bb)).alloc nobox) w') := C1
  clear C1
  go_enter Tryd.func15, Tryd.ntmps15
  go_wp2_with fail
  refine HC.out.mono ?_
  rintro e w1 ⟨rfl, hB⟩
  have HB : Hid (Below (w.heap.size + 1 + 1 + 1) (((w.alloc (box false ba)).alloc (box true bb)).alloc nobox) w1) := hB
  have HA : Hid (Row w1 ba va) := ((((ha.alloc _).alloc _).alloc _).below hB (by have := ha.2.1; omega))
  have HA2 : Hid (Row w1 bb vb) := ((((hb.alloc _).alloc _).alloc _).below hB (by have := hb.2.1; omega))
  have HZ : Hid (w.heap.size + 1 + 1 + 1 ≤ w1.heap.size) := by have := hB.size; rw [size3] at this; exact this
  obtain ⟨c1, c2, c3, c4, c5, c6, f5, f6⟩ := boxes hB
  clear hB
  go_wp2_with fail
  refine wp_region_held_drew (S := (fun w' => w'.cell? ⟨w.heap.size, 0, none⟩ = some (.bool false) ∧ w'.cell? ⟨w.heap.size, 1, none⟩ = some (.slice (some ⟨ba, 0, none⟩) 6 6) ∧ w'.cell? ⟨w.heap.size + 1, 1, none⟩ = some (.slice (some ⟨bb, 0, none⟩) 6 6))) (by kernel_rfl) ⟨c1, c2, c4⟩ (fun hHeld => ?_)
  refine wpAnyH_take (i := 0) (v := ?_) rfl (by kernel_rfl) (by kernel_rfl) (by kernel_rfl) (fun _ _ _ h => h) (Or.inl ⟨by kernel_rfl, ?_⟩) (by assumption) ?_
  case refine_2 => (intro w9 hSw; (try dsimp only at hSw); obtain ⟨s0, s1, s2⟩ := hSw; go_simp; try with_reducible rfl)
  refine wpAnyH_take (i := 1) (v := ?_) rfl (by kernel_rfl) (by kernel_rfl) (by kernel_rfl) (fun _ _ _ h => h) (Or.inl ⟨by kernel_rfl, ?_⟩) (by assumption) ?_
  case refine_2 => (intro w9 hSw; (try dsimp only at hSw); obtain ⟨s0, s1, s2⟩ := hSw; go_simp; try with_reducible rfl)
  refine wpAnyH_take (i := 2) (v := ?_) rfl (by kernel_rfl) (by kernel_rfl) (by kernel_rfl) (fun _ _ _ h => h) (Or.inl ⟨by kernel_rfl, ?_⟩) (by assumption) ?_
  case refine_2 => (intro w9 hSw; (try dsimp only at hSw); obtain ⟨s0, s1, s2⟩ := hSw; go_simp; try with_reducible rfl)
  refine wpAnyH_take (i := 3) (v := undef) rfl (by kernel_rfl) (by kernel_rfl) (by kernel_rfl) (fun _ _ _ h => h) (Or.inr ⟨by kernel_rfl, rfl⟩) (by assumption) ?_
  refine wpAnyH_take (i := 4) (v := undef) rfl (by kernel_rfl) (by kernel_rfl) (by kernel_rfl) (fun _ _ _ h => h) (Or.inr ⟨by kernel_rfl, rfl⟩) (by assumption) ?_
  refine wpAnyH_take (i := 5) (v := undef) rfl (by kernel_rfl) (by kernel_rfl) (by kernel_rfl) (fun _ _ _ h => h) (Or.inr ⟨by kernel_rfl, rfl⟩) (by assumption) ?_
  refine wpAnyH_take (i := 6) (v := undef) rfl (by kernel_rfl) (by kernel_rfl) (by kernel_rfl) (fun _ _ _ h => h) (Or.inr ⟨by kernel_rfl, rfl⟩) (by assumption) ?_
  refine wpAnyH_take (i := 7) (v := undef) rfl (by kernel_rfl) (by kernel_rfl) (by kernel_rfl) (fun _ _ _ h => h) (Or.inr ⟨by kernel_rfl, rfl⟩) (by assumption) ?_
  refine wpAnyH_take (i := 8) (v := undef) rfl (by kernel_rfl) (by kernel_rfl) (by kernel_rfl) (fun _ _ _ h => h) (Or.inr ⟨by kernel_rfl, rfl⟩) (by assumption) ?_
  refine wpAnyH_take (i := 9) (v := ?_) rfl (by kernel_rfl) (by kernel_rfl) (by kernel_rfl) (fun _ _ _ h => h) (Or.inl ⟨by kernel_rfl, ?_⟩) (by assumption) ?_
  case refine_2 => (intro w9 hSw; (try dsimp only at hSw); obtain ⟨s0, s1, s2⟩ := hSw; go_simp; try with_reducible rfl)
  refine wpAnyH_take (i := 10) (v := ?_) rfl (by kernel_rfl) (by kernel_rfl) (by kernel_rfl) (fun _ _ _ h => h) (Or.inl ⟨by kernel_rfl, ?_⟩) (by assumption) ?_
  case refine_2 => (intro w9 hSw; (try dsimp only at hSw); obtain ⟨s0, s1, s2⟩ := hSw; go_simp; try with_reducible rfl)
  refine wpAnyH_take (i := 11) (v := ?_) rfl (by kernel_rfl) (by kernel_rfl) (by kernel_rfl) (fun _ _ _ h => h) (Or.inl ⟨by kernel_rfl, ?_⟩) (by assumption) ?_
  case refine_2 => (intro w9 hSw; (try dsimp only at hSw); obtain ⟨s0, s1, s2⟩ := hSw; go_simp; try with_reducible rfl)
  refine wpAnyH_take (i := 12) (v := ?_) rfl (by kernel_rfl) (by kernel_rfl) (by kernel_rfl) (fun _ _ _ h => h) (Or.inl ⟨by kernel_rfl, ?_⟩) (by assumption) ?_
  case refine_2 => (intro w9 hSw; (try dsimp only at hSw); obtain ⟨s0, s1, s2⟩ := hSw; go_simp; try with_reducible rfl)
  refine wpAnyH_take (i := 13) (v := ?_) rfl (by kernel_rfl) (by kernel_rfl) (by kernel_rfl) (fun _ _ _ h => h) (Or.inl ⟨by kernel_rfl, ?_⟩) (by assumption) ?_
  case refine_2 => (intro w9 hSw; (try dsimp only at hSw); obtain ⟨s0, s1, s2⟩ := hSw; go_simp; try with_reducible rfl)
  refine wpAnyH_ready (rs := [14]) (by kernel_rfl) (by simp) (AllReadyH.cons (o := { dst := some 38, op := _, type := _, pos := _, after := _, guard := none }) rfl (fun K hK => ?_) AllReadyH.nil)
  go_simp
  refine (rless_any ba bb va vb w1.drew HA.out.drew HA2.out.drew hle).mono ?_
  rintro e w2 ⟨rfl, hP⟩
  obtain ⟨d1, d2, d3, d4, d5, d6, g5, g6⟩ := boxes (HB.out.drew.trans (hP.below.mono HZ.out))
  have HP : Hid _ := hP
  clear hP
  refine hK.out _ _ ⟨d1, d2, d4⟩ (fun hHeld => ?_)
  clear hK K
  refine wpAnyH_take (i := 15) (v := ?_) rfl (by kernel_rfl) (by kernel_rfl) (by kernel_rfl) (fun _ _ _ h => h) (Or.inl ⟨by kernel_rfl, ?_⟩) (by assumption) ?_
  case refine_2 => (intro w9 hSw; (try dsimp only at hSw); obtain ⟨s0, s1, s2⟩ := hSw; go_simp; try with_reducible rfl)
  refine wpAnyH_ready (rs := [16]) (by kernel_rfl) (by simp) (AllReadyH.cons (o := { dst := none, op := _, type := _, pos := _, after := _, guard := none }) rfl (fun K hK => ?_) AllReadyH.nil)
  go_simp
  refine hK.out _ _ ⟨(wkeep2 (by omega) _ _ _).trans d1, (wkeep2 (by omega) _ _ _).trans d2, (wkeep2 (by omega) _ _ _).trans d4⟩ (fun hHeld => ?_)
  clear hK K
  refine wpAnyH_done (by kernel_rfl) ?_ _
  go_wp2
  refine bodyPost_ret (v := .agg #[.bool false, .slice (some ⟨w1.heap.size, 0, none⟩) 6 6]) (by simp [results, Tryd.results15, go_sem, d5, d6]) rfl ⟨_, rfl, ?_⟩
  have hP := HP.out
  have hz := HZ.out
  refine ⟨((((three _ _ _).trans (HB.out.drew.mono (by omega))).trans (hP.below.mono (Nat.le_trans (by omega) hz))).setCell (Nat.le_trans (Nat.le_add_right _ 2) (Nat.le_refl _)) _).setCell (Nat.le_trans (Nat.le_add_right _ 2) (Nat.le_refl _)) _, by omega, ?_⟩
  exact ((hP.row (Nat.lt_of_le_of_lt (Nat.sub_le _ _) ha.1)).setCell (show w.heap.size + 1 + 1 ≠ w1.heap.size from by omega) _).setCell (show w.heap.size + 1 + 1 ≠ w1.heap.size from by omega) _

end Go.Proofs.YtoglkfchiidmmaaDoor

/- Contracts, more: the reference's Plus of a number below nought and one above that is not the greater one; Minus of a number that is not below nought. -/
namespace Go.Proofs.YtoglkfchiidmmaaDoor
open Go.RowKit
set_option linter.unusedVariables false

/-- a world under another name. -/
theorem wat_world {P : Program} {c : Code} {Q : Exit → Act → World → Prop} {a : Act} {w1 w2 : World} (h : w1 = w2) (k : Code.wp P c Q a w2) : Code.wp P c Q a w1 := by subst h; exact k

set_option maxRecDepth 100000 in
set_option maxHeartbeats 2000000 in
theorem plus_ge_true (ba bb va vb : Nat) (w : World) (ha : Row w ba va) (hb : Row w bb vb) (hle : vb ≤ va) :
    Calls Tryd.prog 15 #[.agg #[.bool true, .slice (some ⟨ba, 0, none⟩) 6 6], .agg #[.bool false, .slice (some ⟨bb, 0, none⟩) 6 6]] w fun e w' => ∃ b, e = .returned (.agg #[.bool (decide (0 < wcmpV va vb)), .slice (some ⟨b, 0, none⟩) 6 6]) ∧ Below w.heap.size w w' ∧ w.heap.size ≤ b ∧ Row w' b (va - vb) := by
  have C1 := rcmp_any ba bb va vb (((w.alloc (box true ba)).alloc (box false bb)).alloc nobox) (((ha.alloc _).alloc _).alloc _) (((hb.alloc _).alloc _).alloc _)
  rw [size3] at C1
  have hcv : 0 ≤ wcmpV va vb := by unfold wcmpV; split <;> (try split) <;> omega
  have CC : Hid (∀ w : World, Row w ba va → Row w bb vb → Calls Tryd.prog 24 #[.slice (some ⟨ba, 0, none⟩) 6 6, .slice (some ⟨bb, 0, none⟩) 6 6] w fun e w' => e = .returned (.int .i64 (wcmpV va vb)) ∧ Below w.heap.size w w') := fun w h1 h2 => rcmp_any ba bb va vb w h1 h2
  generalize wcmpV va vb = cv at *
  have HC : Hid (Calls Tryd.prog 24 #[.slice (some ⟨ba, 0, none⟩) 6 6, .slice (some ⟨bb, 0, none⟩) 6 6] (((w.alloc (box true ba)).alloc (box false bb)).alloc nobox) fun e w' => e = .returned (.int .i64 cv) ∧ Below (w.heap.size + 1 + 1 + 1) (((w.alloc (box true ba)).alloc (box false bb)).alloc nobox) w') := C1
  clear C1
  go_enter Tryd.func15, Tryd.ntmps15
  go_wp2_with fail
  refine HC.out.mono ?_
  rintro e w1 ⟨rfl, hB⟩
  have HB : Hid (Below (w.heap.size + 1 + 1 + 1) (((w.alloc (box true ba)).alloc (box false bb)).alloc nobox) w1) := hB
  have HA : Hid (Row w1 ba va) := ((((ha.alloc _).alloc _).alloc _).below hB (by have := ha.2.1; omega))
  have HA2 : Hid (Row w1 bb vb) := ((((hb.alloc _).alloc _).alloc _).below hB (by have := hb.2.1; omega))
  have HZ : Hid (w.heap.size + 1 + 1 + 1 ≤ w1.heap.size) := by have := hB.size; rw [size3] at this; exact this
  obtain ⟨c1, c2, c3, c4, c5, c6, f5, f6⟩ := boxes hB
  clear hB
  go_wp2_with fail
  refine wp_region_held_drew (S := (fun w' => w'.cell? ⟨w.heap.size, 0, none⟩ = some (.bool true) ∧ w'.cell? ⟨w.heap.size, 1, none⟩ = some (.slice (some ⟨ba, 0, none⟩) 6 6) ∧ w'.cell? ⟨w.heap.size + 1, 1, none⟩ = some (.slice (some ⟨bb, 0, none⟩) 6 6))) (by kernel_rfl) ⟨c1, c2, c4⟩ (fun hHeld => ?_)
  refine wpAnyH_take (i := 0) (v := ?_) (oi := { dst := some 24, op := _, type := _, pos := _, after := _, guard := none }) rfl (by kernel_rfl) (by kernel_rfl) (by kernel_rfl) (fun _ _ _ h => h) (Or.inl ⟨by kernel_rfl, ?_⟩) (by assumption) ?_
  case refine_2 => (intro w9 hSw; clear hSw; go_simp; try with_reducible rfl)
  simp only [Act.put, List.setIfInBounds_toArray, List.set_cons_zero, List.set_cons_succ]
  refine wpAnyH_take (i := 1) (v := ?_) (oi := { dst := some 25, op := _, type := _, pos := _, after := _, guard := none }) rfl (by kernel_rfl) (by kernel_rfl) (by kernel_rfl) (fun _ _ _ h => h) (Or.inl ⟨by kernel_rfl, ?_⟩) (by assumption) ?_
  case refine_2 => (intro w9 hSw; obtain ⟨s0, s1, s2⟩ := hSw; go_simp; try with_reducible rfl)
  simp only [Act.put, List.setIfInBounds_toArray, List.set_cons_zero, List.set_cons_succ]
  refine wpAnyH_take (i := 2) (v := ?_) (oi := { dst := some 26, op := _, type := _, pos := _, after := _, guard := none }) rfl (by kernel_rfl) (by kernel_rfl) (by kernel_rfl) (fun _ _ _ h => h) (Or.inl ⟨by kernel_rfl, ?_⟩) (by assumption) ?_
  case refine_2 => (intro w9 hSw; clear hSw; go_simp; try with_reducible rfl)
  simp only [Act.put, List.setIfInBounds_toArray, List.set_cons_zero, List.set_cons_succ]
  refine wpAnyH_take (i := 3) (v := ?_) (oi := { dst := some 27, op := _, type := _, pos := _, after := _, guard := some (2, true) }) rfl (by kernel_rfl) (by kernel_rfl) (by kernel_rfl) (fun _ _ _ h => h) (Or.inl ⟨by kernel_rfl, ?_⟩) (by assumption) ?_
  case refine_2 => (intro w9 hSw; clear hSw; go_simp; try with_reducible rfl)
  simp only [Act.put, List.setIfInBounds_toArray, List.set_cons_zero, List.set_cons_succ]
  refine wpAnyH_take (i := 4) (v := ?_) (oi := { dst := some 28, op := _, type := _, pos := _, after := _, guard := some (2, true) }) rfl (by kernel_rfl) (by kernel_rfl) (by kernel_rfl) (fun _ _ _ h => h) (Or.inl ⟨by kernel_rfl, ?_⟩) (by assumption) ?_
  case refine_2 => (intro w9 hSw; obtain ⟨s0, s1, s2⟩ := hSw; go_simp; try with_reducible rfl)
  simp only [Act.put, List.setIfInBounds_toArray, List.set_cons_zero, List.set_cons_succ]
  refine wpAnyH_take (i := 5) (v := ?_) (oi := { dst := some 29, op := _, type := _, pos := _, after := _, guard := some (2, true) }) rfl (by kernel_rfl) (by kernel_rfl) (by kernel_rfl) (fun _ _ _ h => h) (Or.inl ⟨by kernel_rfl, ?_⟩) (by assumption) ?_
  case refine_2 => (intro w9 hSw; clear hSw; go_simp; try with_reducible rfl)
  simp only [Act.put, List.setIfInBounds_toArray, List.set_cons_zero, List.set_cons_succ]
  refine wpAnyH_take (i := 6) (v := ?_) (oi := { dst := some 30, op := _, type := _, pos := _, after := _, guard := some (2, true) }) rfl (by kernel_rfl) (by kernel_rfl) (by kernel_rfl) (fun _ _ _ h => h) (Or.inl ⟨by kernel_rfl, ?_⟩) (by assumption) ?_
  case refine_2 => (intro w9 hSw; obtain ⟨s0, s1, s2⟩ := hSw; go_simp; try with_reducible rfl)
  simp only [Act.put, List.setIfInBounds_toArray, List.set_cons_zero, List.set_cons_succ]
  refine wpAnyH_take (i := 10) (v := ?_) (oi := { dst := some 34, op := _, type := _, pos := _, after := _, guard := none }) rfl (by kernel_rfl) (by kernel_rfl) (by kernel_rfl) (fun _ _ _ h => h) (Or.inl ⟨by kernel_rfl, ?_⟩) (by assumption) ?_
  case refine_2 => (intro w9 hSw; clear hSw; go_simp; try with_reducible rfl)
  simp only [Act.put, List.setIfInBounds_toArray, List.set_cons_zero, List.set_cons_succ]
  refine wpAnyH_take (i := 11) (v := ?_) (oi := { dst := some 35, op := _, type := _, pos := _, after := _, guard := none }) rfl (by kernel_rfl) (by kernel_rfl) (by kernel_rfl) (fun _ _ _ h => h) (Or.inl ⟨by kernel_rfl, ?_⟩) (by assumption) ?_
  case refine_2 => (intro w9 hSw; obtain ⟨s0, s1, s2⟩ := hSw; go_simp; try with_reducible rfl)
  simp only [Act.put, List.setIfInBounds_toArray, List.set_cons_zero, List.set_cons_succ]
  refine wpAnyH_take (i := 12) (v := ?_) (oi := { dst := some 36, op := _, type := _, pos := _, after := _, guard := none }) rfl (by kernel_rfl) (by kernel_rfl) (by kernel_rfl) (fun _ _ _ h => h) (Or.inl ⟨by kernel_rfl, ?_⟩) (by assumption) ?_
  case refine_2 => (intro w9 hSw; clear hSw; go_simp; try with_reducible rfl)
  simp only [Act.put, List.setIfInBounds_toArray, List.set_cons_zero, List.set_cons_succ]
  refine wpAnyH_take (i := 13) (v := ?_) (oi := { dst := some 37, op := _, type := _, pos := _, after := _, guard := none }) rfl (by kernel_rfl) (by kernel_rfl) (by kernel_rfl) (fun _ _ _ h => h) (Or.inl ⟨by kernel_rfl, ?_⟩) (by assumption) ?_
  case refine_2 => (intro w9 hSw; obtain ⟨s0, s1, s2⟩ := hSw; go_simp; try with_reducible rfl)
  simp only [Act.put, List.setIfInBounds_toArray, List.set_cons_zero, List.set_cons_succ]
  refine wpAnyH_ready (rs := [7]) (by kernel_rfl) (by simp) (AllReadyH.cons (o := { dst := some 31, op := _, type := _, pos := _, after := _, guard := some (2, true) }) rfl (fun K hK => ?_) AllReadyH.nil)
  go_simp
  refine (CC.out _ HA.out.drew HA2.out.drew).mono ?_
  rintro e w2 ⟨rfl, hb2⟩
  have HB2 : Hid (Below (w.heap.size + 1 + 1 + 1) (((w.alloc (box true ba)).alloc (box false bb)).alloc nobox) w2) := HB.out.drew.trans (hb2.mono HZ.out)
  have HAb : Hid (Row w2 ba va) := HA.out.drew.below hb2 HA.out.2.1
  have HAb2 : Hid (Row w2 bb vb) := HA2.out.drew.below hb2 HA2.out.2.1
  have HZ2 : Hid (w.heap.size + 1 + 1 + 1 ≤ w2.heap.size) := Nat.le_trans HZ.out hb2.size
  obtain ⟨d1, d2, d3, d4, d5, d6, g5, g6⟩ := boxes HB2.out
  clear hb2
  refine hK.out _ _ ⟨d1, d2, d4⟩ (fun hHeld => ?_)
  clear hK K
  refine wpAnyH_take (i := 8) (v := ?_) (oi := { dst := some 32, op := _, type := _, pos := _, after := _, guard := some (2, true) }) rfl (by kernel_rfl) (by kernel_rfl) (by kernel_rfl) (fun _ _ _ h => h) (Or.inl ⟨by kernel_rfl, ?_⟩) (by assumption) ?_
  case refine_2 => (intro w9 hSw; clear hSw; go_simp; try with_reducible rfl)
  simp only [Act.put, List.setIfInBounds_toArray, List.set_cons_zero, List.set_cons_succ]
  refine wpAnyH_take (i := 9) (v := ?_) (oi := { dst := some 33, op := _, type := _, pos := _, after := _, guard := none }) rfl (by kernel_rfl) (by kernel_rfl) (by kernel_rfl) (fun _ _ _ h => h) (Or.inl ⟨by kernel_rfl, ?_⟩) (by assumption) ?_
  case refine_2 => (intro w9 hSw; clear hSw; go_simp; try with_reducible rfl)
  simp only [Act.put, List.setIfInBounds_toArray, List.set_cons_zero, List.set_cons_succ]
  refine wpAnyH_ready (rs := [14]) (by kernel_rfl) (by simp) (AllReadyH.cons (o := { dst := some 38, op := _, type := _, pos := _, after := _, guard := none }) rfl (fun K hK => ?_) AllReadyH.nil)
  go_simp
  refine (rless_any ba bb va vb w2 HAb.out HAb2.out hle).mono ?_
  rintro e w3 ⟨rfl, hP⟩
  clear d1 d2 d3 d4 d5 d6 g5 g6
  obtain ⟨d1, d2, d3, d4, d5, d6, g5, g6⟩ := boxes (HB2.out.trans (hP.below.mono HZ2.out))
  have HP : Hid _ := hP
  clear hP
  refine hK.out _ _ ⟨d1, d2, d4⟩ (fun hHeld => ?_)
  clear hK K
  refine wpAnyH_take (i := 15) (v := ?_) (oi := { dst := some 39, op := _, type := _, pos := _, after := _, guard := none }) rfl (by kernel_rfl) (by kernel_rfl) (by kernel_rfl) (fun _ _ _ h => h) (Or.inl ⟨by kernel_rfl, ?_⟩) (by assumption) ?_
  case refine_2 => (intro w9 hSw; clear hSw; go_simp; try with_reducible rfl)
  simp only [Act.put, List.setIfInBounds_toArray, List.set_cons_zero, List.set_cons_succ]
  refine wpAnyH_ready (rs := [16]) (by kernel_rfl) (by simp) (AllReadyH.cons (o := { dst := none, op := _, type := _, pos := _, after := _, guard := none }) rfl (fun K hK => ?_) AllReadyH.nil)
  go_simp
  refine hK.out _ _ ⟨(wkeep2 (by omega) _ _ _).trans d1, (wkeep2 (by omega) _ _ _).trans d2, (wkeep2 (by omega) _ _ _).trans d4⟩ (fun hHeld => ?_)
  clear hK K
  refine wpAnyH_done (by kernel_rfl) ?_ _
  go_wp2
  refine bodyPost_ret (v := .agg #[.bool (decide (0 < cv)), .slice (some ⟨w2.heap.size, 0, none⟩) 6 6]) (by simp [results, Tryd.results15, go_sem, d5, d6]) rfl ⟨_, rfl, ?_⟩
  have hP := HP.out
  have hz := HZ2.out
  refine ⟨((((three _ _ _).trans (HB2.out.mono (by omega))).trans (hP.below.mono (Nat.le_trans (by omega) hz))).setCell (Nat.le_trans (Nat.le_add_right _ 2) (Nat.le_refl _)) _).setCell (Nat.le_trans (Nat.le_add_right _ 2) (Nat.le_refl _)) _, by omega, ?_⟩
  exact ((hP.row (Nat.lt_of_le_of_lt (Nat.sub_le _ _) ha.1)).setCell (show w.heap.size + 1 + 1 ≠ w2.heap.size from by omega) _).setCell (show w.heap.size + 1 + 1 ≠ w2.heap.size from by omega) _

set_option maxRecDepth 100000 in
set_option maxHeartbeats 2000000 in
theorem minus_false (ba va : Nat) (z : Bool) (w : World) (ha : Row w ba va)
    (ZC : Hid (∀ w : World, Row w ba va → Calls Tryd.prog 26 #[.slice (some ⟨ba, 0, none⟩) 6 6] w fun e w' => e = .returned (.bool z) ∧ Below w.heap.size w w')) :
    Calls Tryd.prog 17 #[.agg #[.bool false, .slice (some ⟨ba, 0, none⟩) 6 6]] w fun e w' => e = .returned (.agg #[.bool (!z), .slice (some ⟨ba, 0, none⟩) 6 6]) ∧ Below w.heap.size w w' := by
  have A0 : Row ((w.alloc (box false ba)).alloc nobox) ba va := (ha.alloc _).alloc _
  have F2 : ((w.alloc (box false ba)).alloc nobox).frozen? ⟨w.heap.size + 1, 0, none⟩ = false ∧ ((w.alloc (box false ba)).alloc nobox).frozen? ⟨w.heap.size + 1, 1, none⟩ = false := ⟨by rw [World.frozen?_alloc_at _ _ _ _ (by simp)], by rw [World.frozen?_alloc_at _ _ _ _ (by simp)]⟩
  have F3 : ((w.alloc (box false ba)).alloc nobox).cell? ⟨w.heap.size + 1, 0, none⟩ = some (.bool false) ∧ ((w.alloc (box false ba)).alloc nobox).cell? ⟨w.heap.size + 1, 1, none⟩ = some (.slice none 0 0) := ⟨by rw [World.cell?_alloc_at _ _ _ _ (by simp)]; rfl, by rw [World.cell?_alloc_at _ _ _ _ (by simp)]; rfl⟩
  obtain ⟨W, hW⟩ : ∃ W, W = (w.alloc (box false ba)).alloc nobox := ⟨_, rfl⟩
  have k0 : W.cell? ⟨w.heap.size, 0, none⟩ = some (.bool false) := by rw [hW]; exact box0 _ _ _ _
  have k1 : W.cell? ⟨w.heap.size, 1, none⟩ = some (.slice (some ⟨ba, 0, none⟩) 6 6) := by rw [hW]; exact box0 _ _ _ _
  have hlt : w.heap.size + 1 < W.heap.size := by rw [hW]; simp
  have HB : Hid (Below w.heap.size w W) := by show Below _ _ _; rw [hW]; exact two2 _ _
  rw [← hW] at A0 F2 F3
  obtain ⟨f0, f1⟩ := F2
  obtain ⟨g0, g1⟩ := F3
  go_enter Tryd.func17, Tryd.ntmps17
  go_wp2_with fail
  refine wat_world hW.symm ?_
  clear hW
  refine wp_region_held_drew (S := (fun w' => w'.cell? ⟨w.heap.size, 0, none⟩ = some (.bool false) ∧ w'.cell? ⟨w.heap.size, 1, none⟩ = some (.slice (some ⟨ba, 0, none⟩) 6 6))) (by kernel_rfl) ⟨k0, k1⟩ (fun hHeld => ?_)
  refine wpAnyH_take (i := 0) (v := ?_) (oi := { dst := some 3, op := _, type := _, pos := _, after := _, guard := none }) rfl (by kernel_rfl) (by kernel_rfl) (by kernel_rfl) (fun _ _ _ h => h) (Or.inl ⟨by kernel_rfl, ?_⟩) (by assumption) ?_
  case refine_2 => (intro w9 hSw; clear hSw; go_simp; try with_reducible rfl)
  simp only [Act.put, List.setIfInBounds_toArray, List.set_cons_zero, List.set_cons_succ]
  refine wpAnyH_take (i := 1) (v := ?_) (oi := { dst := some 4, op := _, type := _, pos := _, after := _, guard := none }) rfl (by kernel_rfl) (by kernel_rfl) (by kernel_rfl) (fun _ _ _ h => h) (Or.inl ⟨by kernel_rfl, ?_⟩) (by assumption) ?_
  case refine_2 => (intro w9 hSw; obtain ⟨s0, s1⟩ := hSw; go_simp; try with_reducible rfl)
  simp only [Act.put, List.setIfInBounds_toArray, List.set_cons_zero, List.set_cons_succ]
  refine wpAnyH_take (i := 2) (v := ?_) (oi := { dst := some 5, op := _, type := _, pos := _, after := _, guard := none }) rfl (by kernel_rfl) (by kernel_rfl) (by kernel_rfl) (fun _ _ _ h => h) (Or.inl ⟨by kernel_rfl, ?_⟩) (by assumption) ?_
  case refine_2 => (intro w9 hSw; clear hSw; go_simp; try with_reducible rfl)
  simp only [Act.put, List.setIfInBounds_toArray, List.set_cons_zero, List.set_cons_succ]
  refine wpAnyH_take (i := 3) (v := ?_) (oi := { dst := some 6, op := _, type := _, pos := _, after := _, guard := none }) rfl (by kernel_rfl) (by kernel_rfl) (by kernel_rfl) (fun _ _ _ h => h) (Or.inl ⟨by kernel_rfl, ?_⟩) (by assumption) ?_
  case refine_2 => (intro w9 hSw; clear hSw; go_simp; try with_reducible rfl)
  simp only [Act.put, List.setIfInBounds_toArray, List.set_cons_zero, List.set_cons_succ]
  refine wpAnyH_take (i := 4) (v := ?_) (oi := { dst := some 7, op := _, type := _, pos := _, after := _, guard := some (3, true) }) rfl (by kernel_rfl) (by kernel_rfl) (by kernel_rfl) (fun _ _ _ h => h) (Or.inl ⟨by kernel_rfl, ?_⟩) (by assumption) ?_
  case refine_2 => (intro w9 hSw; clear hSw; go_simp; try with_reducible rfl)
  simp only [Act.put, List.setIfInBounds_toArray, List.set_cons_zero, List.set_cons_succ]
  refine wpAnyH_take (i := 5) (v := ?_) (oi := { dst := some 8, op := _, type := _, pos := _, after := _, guard := some (3, true) }) rfl (by kernel_rfl) (by kernel_rfl) (by kernel_rfl) (fun _ _ _ h => h) (Or.inl ⟨by kernel_rfl, ?_⟩) (by assumption) ?_
  case refine_2 => (intro w9 hSw; obtain ⟨s0, s1⟩ := hSw; go_simp; try with_reducible rfl)
  simp only [Act.put, List.setIfInBounds_toArray, List.set_cons_zero, List.set_cons_succ]
  refine wpAnyH_take (i := 9) (v := ?_) (oi := { dst := some 12, op := _, type := _, pos := _, after := _, guard := none }) rfl (by kernel_rfl) (by kernel_rfl) (by kernel_rfl) (fun _ _ _ h => h) (Or.inl ⟨by kernel_rfl, ?_⟩) (by assumption) ?_
  case refine_2 => (intro w9 hSw; clear hSw; go_simp; try with_reducible rfl)
  simp only [Act.put, List.setIfInBounds_toArray, List.set_cons_zero, List.set_cons_succ]
  refine wpAnyH_take (i := 10) (v := ?_) (oi := { dst := some 13, op := _, type := _, pos := _, after := _, guard := none }) rfl (by kernel_rfl) (by kernel_rfl) (by kernel_rfl) (fun _ _ _ h => h) (Or.inl ⟨by kernel_rfl, ?_⟩) (by assumption) ?_
  case refine_2 => (intro w9 hSw; obtain ⟨s0, s1⟩ := hSw; go_simp; try with_reducible rfl)
  simp only [Act.put, List.setIfInBounds_toArray, List.set_cons_zero, List.set_cons_succ]
  refine wpAnyH_ready (rs := [6]) (by kernel_rfl) (by simp) (AllReadyH.cons (o := { dst := some 9, op := _, type := _, pos := _, after := _, guard := some (3, true) }) rfl (fun K hK => ?_) AllReadyH.nil)
  go_simp
  refine (ZC.out _ A0.drew).mono ?_
  rintro e w2 ⟨rfl, hb2⟩
  have b2 : Below W.heap.size W.drew w2 := hb2
  have e0 : w2.cell? ⟨w.heap.size, 0, none⟩ = some (.bool false) := (b2.cell (p := ⟨w.heap.size, 0, none⟩) (show w.heap.size < W.heap.size by omega)).trans k0
  have e1 : w2.cell? ⟨w.heap.size, 1, none⟩ = some (.slice (some ⟨ba, 0, none⟩) 6 6) := (b2.cell (p := ⟨w.heap.size, 1, none⟩) (show w.heap.size < W.heap.size by omega)).trans k1
  have p0 : w2.cell? ⟨w.heap.size + 1, 0, none⟩ = some (.bool false) := (b2.cell (p := ⟨w.heap.size + 1, 0, none⟩) hlt).trans g0
  have p1 : w2.cell? ⟨w.heap.size + 1, 1, none⟩ = some (.slice none 0 0) := (b2.cell (p := ⟨w.heap.size + 1, 1, none⟩) hlt).trans g1
  have q0 : w2.frozen? ⟨w.heap.size + 1, 0, none⟩ = false := (b2.frozen (p := ⟨w.heap.size + 1, 0, none⟩) hlt).trans f0
  have q1 : w2.frozen? ⟨w.heap.size + 1, 1, none⟩ = false := (b2.frozen (p := ⟨w.heap.size + 1, 1, none⟩) hlt).trans f1
  have HB2 : Hid (Below w.heap.size w w2) := HB.out.drew.trans (b2.mono (by omega))
  clear hb2 b2
  refine hK.out _ _ ⟨e0, e1⟩ (fun hHeld => ?_)
  clear hK K
  refine wpAnyH_take (i := 7) (v := ?_) (oi := { dst := some 10, op := _, type := _, pos := _, after := _, guard := some (3, true) }) rfl (by kernel_rfl) (by kernel_rfl) (by kernel_rfl) (fun _ _ _ h => h) (Or.inl ⟨by kernel_rfl, ?_⟩) (by assumption) ?_
  case refine_2 => (intro w9 hSw; clear hSw; go_simp; try with_reducible rfl)
  simp only [Act.put, List.setIfInBounds_toArray, List.set_cons_zero, List.set_cons_succ]
  refine wpAnyH_take (i := 8) (v := ?_) (oi := { dst := some 11, op := _, type := _, pos := _, after := _, guard := none }) rfl (by kernel_rfl) (by kernel_rfl) (by kernel_rfl) (fun _ _ _ h => h) (Or.inl ⟨by kernel_rfl, ?_⟩) (by assumption) ?_
  case refine_2 => (intro w9 hSw; clear hSw; go_simp; try with_reducible rfl)
  simp only [Act.put, List.setIfInBounds_toArray, List.set_cons_zero, List.set_cons_succ]
  refine wpAnyH_take (i := 11) (v := ?_) (oi := { dst := some 14, op := _, type := _, pos := _, after := _, guard := none }) rfl (by kernel_rfl) (by kernel_rfl) (by kernel_rfl) (fun _ _ _ h => h) (Or.inl ⟨by kernel_rfl, ?_⟩) (by assumption) ?_
  case refine_2 => (intro w9 hSw; clear hSw; go_simp; try with_reducible rfl)
  simp only [Act.put, List.setIfInBounds_toArray, List.set_cons_zero, List.set_cons_succ]
  refine wpAnyH_ready (rs := [12]) (by kernel_rfl) (by simp) (AllReadyH.cons (o := { dst := none, op := _, type := _, pos := _, after := _, guard := none }) rfl (fun K hK => ?_) AllReadyH.nil)
  go_simp
  refine hK.out _ _ ⟨(wkeep2 (by omega) _ _ _).trans e0, (wkeep2 (by omega) _ _ _).trans e1⟩ (fun hHeld => ?_)
  clear hK K
  refine wpAnyH_done (by kernel_rfl) ?_ _
  go_wp2
  exact bodyPost_ret (v := .agg #[.bool (!z), .slice (some ⟨ba, 0, none⟩) 6 6]) (by simp [results, Tryd.results17, go_sem, p0, p1]) rfl ⟨rfl, (HB2.out.setCell (by simp) _).setCell (by simp) _⟩

end Go.Proofs.YtoglkfchiidmmaaDoor

/- Contracts, more: the reference's Of and Small. -/
namespace Go.Proofs.YtoglkfchiidmmaaDoor
open Go.RowKit
set_option linter.unusedVariables false

theorem wbelow_drewN {B : Nat} {a w : World} (h : Below B a w) (n : Nat) : Below B a (w.drewN n) := h.trans ⟨rfl, rfl, rfl, Nat.le_refl _, fun _ _ => rfl⟩

theorem of_row (w : World) (v : Nat) (hv : v < 18446744073709551616) (o : Obj) (a b : Int) (ha : a = ((v % 4294967296 : Nat) : Int)) (hb : b = ((v / 4294967296 : Nat) : Int)) :
    Row ((w.alloc o).alloc (.cells #[.int .u64 a, .int .u64 b, .int .u64 0, .int .u64 0, .int .u64 0, .int .u64 0] 26)) (w.heap.size + 1) v := by
  refine ⟨Nat.lt_of_lt_of_le hv (show 18446744073709551616 ≤ 4294967296 ^ 6 by decide), by simp, fun i hi => ?_⟩
  rw [World.cell?_alloc_at _ _ _ _ (by simp)]
  subst ha hb
  have h0 : v / 18446744073709551616 = 0 := Nat.div_eq_of_lt hv
  have z : ∀ k, 2 ≤ k → v / 4294967296 ^ k = 0 := fun k hk => Nat.div_eq_of_lt (Nat.lt_of_lt_of_le hv (Nat.le_trans (show 18446744073709551616 ≤ 4294967296 ^ 2 by decide) (Nat.pow_le_pow_right (show 0 < 4294967296 by decide) hk)))
  match i, hi with
  | 0, _ => simp [Wd.dg]
  | 1, _ => simp [Wd.dg]; omega
  | 2, _ => simp [Wd.dg, z 2 (by omega)]
  | 3, _ => simp [Wd.dg, z 3 (by omega)]
  | 4, _ => simp [Wd.dg, z 4 (by omega)]
  | 5, _ => simp [Wd.dg, z 5 (by omega)]

set_option maxRecDepth 100000 in
set_option maxHeartbeats 2000000 in
theorem of_pos (n : Int) (v : Nat) (h0 : ¬ n < 0) (hv : n = (v : Int)) (h2 : v < 9223372036854775808) (w : World) :
    Calls Tryd.prog 16 #[.int .i64 n] w fun e w' => ∃ b, e = .returned (.agg #[.bool false, .slice (some ⟨b, 0, none⟩) 6 6]) ∧ Below w.heap.size w w' ∧ w.heap.size ≤ b ∧ Row w' b v := by
  have hmk := make_six
  have n1 : 0 ≤ n := by omega
  have n2 : n ≤ 9223372036854775807 := by omega
  have e1 : bits .and .u64 n 4294967295 = n % 4294967296 := by rw [hv, andLow v (by omega)]; omega
  have HV : Hid (n = (v : Int)) := hv
  clear hv
  go_enter Tryd.func16, Tryd.ntmps16
  go_wp2_with fail
  refine bodyPost_ret (v := .agg #[.bool false, .slice (some ⟨w.heap.size + 1, 0, none⟩) 6 6]) (by simp [results, Tryd.results16, go_sem]) rfl ⟨_, rfl, (by repeat' (first | assumption | exact Below.refl _ _ | exact Nat.le_refl _ | refine Below.alloc ?_ ?_ _ | (simp; done) | (simp; omega) | omega)), by omega, ?_⟩
  have hv := HV.out
  exact of_row w v (by omega) _ _ _ (by omega) (by omega)

set_option maxRecDepth 100000 in
set_option maxHeartbeats 2000000 in
theorem of_neg (n : Int) (v : Nat) (h0 : n < 0) (hv : -n = (v : Int)) (h2 : v ≤ 9223372036854775808) (w : World) :
    Calls Tryd.prog 16 #[.int .i64 n] w fun e w' => ∃ b, e = .returned (.agg #[.bool true, .slice (some ⟨b, 0, none⟩) 6 6]) ∧ Below w.heap.size w w' ∧ w.heap.size ≤ b ∧ Row w' b v := by
  have hmk := make_six
  obtain ⟨u, hu⟩ : ∃ u : Int, u = (v : Int) := ⟨_, rfl⟩
  have n1 : 0 ≤ u := by omega
  have n2 : u ≤ 9223372036854775808 := by omega
  have n3 : -9223372036854775808 ≤ n := by omega
  have e0 : IntKind.u64.wrap (-(IntKind.u64.wrap n)) = u := by rw [IntKind.wrap_u64, IntKind.wrap_u64]; omega
  have e1 : bits .and .u64 u 4294967295 = u % 4294967296 := by rw [hu, andLow v (by omega)]; omega
  have HV : Hid (u = (v : Int)) := hu
  clear hv hu h2
  go_enter Tryd.func16, Tryd.ntmps16
  go_wp2_with fail
  refine bodyPost_ret (v := .agg #[.bool true, .slice (some ⟨w.heap.size + 1, 0, none⟩) 6 6]) (by simp [results, Tryd.results16, go_sem]) rfl ⟨_, rfl, (by repeat' (first | assumption | exact Below.refl _ _ | exact Nat.le_refl _ | refine Below.alloc ?_ ?_ _ | (simp; done) | (simp; omega) | omega)), by omega, ?_⟩
  have hv := HV.out
  exact of_row w v (by omega) _ _ _ (by omega) (by omega)

theorem rof_any (n : Int) (h1 : -9223372036854775808 ≤ n) (h2 : n ≤ 9223372036854775807) (w : World) :
    Calls Tryd.prog 16 #[.int .i64 n] w fun e w' => ∃ b, e = .returned (.agg #[.bool (decide (n < 0)), .slice (some ⟨b, 0, none⟩) 6 6]) ∧ Below w.heap.size w w' ∧ w.heap.size ≤ b ∧ Row w' b n.natAbs := by
  by_cases h : n < 0
  · rw [decide_eq_true h]; exact of_neg n n.natAbs h (by omega) (by omega) w
  · rw [decide_eq_false h]; exact of_pos n n.natAbs h (by omega) (by omega) w

theorem wdg_big {v j : Nat} (hj : 2 ≤ j) (h : ¬ Wd.dg v j = 0) : 18446744073709551616 ≤ v := by
  rcases Nat.lt_or_ge v 18446744073709551616 with hv | hv
  · exfalso
    apply h
    unfold Wd.dg
    rw [Nat.div_eq_of_lt (Nat.lt_of_lt_of_le hv (Nat.le_trans (show 18446744073709551616 ≤ 4294967296 ^ 2 by decide) (Nat.pow_le_pow_right (show 0 < 4294967296 by decide) hj)))]
  · exact hv
theorem wdg_down {v k : Nat} (hv : v < 4294967296 ^ (k + 1)) (h : Wd.dg v k = 0) : v < 4294967296 ^ k := by
  unfold Wd.dg at h
  have p := Wd.pw_pos k
  have q : v / 4294967296 ^ k < 4294967296 := (Nat.div_lt_iff_lt_mul p).2 (by rw [Nat.mul_comm, ← Nat.pow_succ]; exact hv)
  rw [Nat.mod_eq_of_lt q] at h
  rcases Nat.lt_or_ge v (4294967296 ^ k) with g | g
  · exact g
  · have := Nat.div_pos g p; omega
theorem wdg_small {v : Nat} (hv : v < 4294967296 ^ 6) (h : ∀ k, 2 ≤ k → k < 6 → Wd.dg v k = 0) : v < 18446744073709551616 := by
  have a := wdg_down (k := 5) hv (h 5 (by omega) (by omega))
  have b := wdg_down (k := 4) a (h 4 (by omega) (by omega))
  have c := wdg_down (k := 3) b (h 3 (by omega) (by omega))
  exact wdg_down (k := 2) c (h 2 (by omega) (by omega))

/-- the two lowest parts together. -/
theorem low_two {a b : Nat} (ha : a < 4294967296) (hb : b < 4294967296) : bits .or .u64 ((a : Int) * 4294967296) (b : Int) = ((a * 4294967296 + b : Nat) : Int) := by
  have h := bits_or_u64_nat (a * 4294967296) b (by omega) (by omega)
  have e : a * 4294967296 ||| b = a * 4294967296 + b := by
    have q := Nat.shiftLeft_add_eq_or_of_lt (i := 32) (show b < 2 ^ 32 by simpa using hb) a
    rw [Nat.shiftLeft_eq] at q
    exact q.symm
  rw [e] at h
  rw [show (a : Int) * 4294967296 = ((a * 4294967296 : Nat) : Int) by omega]
  exact h

set_option maxRecDepth 100000 in
set_option maxHeartbeats 2000000 in
theorem small_any (n : Bool) (b v : Nat) (w : World) (hb : Row w b v) :
    Calls Tryd.prog 22 #[.agg #[.bool n, .slice (some ⟨b, 0, none⟩) 6 6]] w fun e w' => e = .returned (.tuple #[.int .i64 (smV (sgn n v)), .int .i64 (smE (sgn n v))]) ∧ Below w.heap.size w w' := by
  have R : Row (w.alloc (box n b)) b v := hb.alloc _
  obtain ⟨W, hW⟩ : ∃ W, W = w.alloc (box n b) := ⟨_, rfl⟩
  have k0 : W.cell? ⟨w.heap.size, 0, none⟩ = some (.bool n) := by rw [hW, World.cell?_alloc_at _ _ _ _ rfl]; rfl
  have k1 : W.cell? ⟨w.heap.size, 1, none⟩ = some (.slice (some ⟨b, 0, none⟩) 6 6) := by rw [hW, World.cell?_alloc_at _ _ _ _ rfl]; rfl
  have HB : Hid (Below w.heap.size w W) := by show Below _ _ _; rw [hW]; exact (Below.refl _ _).alloc (Nat.le_refl _) _
  rw [← hW] at R
  go_enter Tryd.func22, Tryd.ntmps22
  go_wp2_with fail
  refine wat_world hW.symm ?_
  clear hW
  go_loop [4] (fun i => ∃ j : Nat, 2 ≤ j ∧ j ≤ 6 ∧ i = .int .i64 (j : Int) ∧ ∀ k, 2 ≤ k → k < j → Wd.dg v k = 0) (fun i => 6 - (intOf i).toNat)
  case atStart => exact ⟨2, by omega, by omega, rfl, fun k h1 h2 => by omega⟩
  case round =>
    obtain ⟨j, j1, j2, rfl, hz⟩ := hrel
    by_cases hlt : j < 6
    · have hlt' : (j : Int) < 6 := by omega
      have j0 : (0 : Int) ≤ (j : Int) := by omega
      have c := R.2.2 j hlt
      by_cases hd : Wd.dg v j = 0
      · have HN : Hid (∀ k, 2 ≤ k → k < j + 1 → Wd.dg v k = 0) := fun k h1 h2 => by
          by_cases e : k = j
          · rw [e]; exact hd
          · exact hz k h1 (by omega)
        rw [hd] at c
        clear hz hd R
        go_wp2_with fail
        go_round
        case rel => exact ⟨j + 1, by omega, by omega, by go_num, HN.out⟩
        case measure => simp [intOf]; omega
      · have hd' : (((Wd.dg v j : Nat) : Int) != 0) = true := by rw [bne_iff_ne]; omega
        have HO : Hid (smV (sgn n v) = 0 ∧ smE (sgn n v) = 10) := by
          have hv : 18446744073709551616 ≤ v := wdg_big j1 hd
          have o : sgn n v < -9223372036854775808 ∨ 9223372036854775807 < sgn n v := by unfold sgn; cases n <;> simp <;> omega
          exact ⟨smV_out o, smE_out o⟩
        generalize Wd.dg v j = x at *
        clear hz hd R
        go_wp2_with fail
        go_ret2
        exact ⟨ret_two HO.out.1.symm HO.out.2.symm, HB.out⟩
    · have hv : v < 18446744073709551616 := wdg_small R.1 (fun k h1 h2 => hz k h1 (by omega))
      have hlt' : ¬ (j : Int) < 6 := by omega
      have c0 := R.2.2 0 (by omega)
      have c1 := R.2.2 1 (by omega)
      have d0 := Wd.dg_lt v 0
      have d1 := Wd.dg_lt v 1
      have hor := low_two d1 d0
      have hsum : Wd.dg v 1 * 4294967296 + Wd.dg v 0 = v := by unfold Wd.dg; simp; omega
      rw [hsum] at hor
      obtain ⟨u, hu⟩ : ∃ u : Int, u = (v : Int) := ⟨_, rfl⟩
      rw [← hu] at hor
      obtain ⟨x0, hx0⟩ : ∃ x : Int, x = ((Wd.dg v 0 : Nat) : Int) := ⟨_, rfl⟩
      obtain ⟨x1, hx1⟩ : ∃ x : Int, x = ((Wd.dg v 1 : Nat) : Int) := ⟨_, rfl⟩
      rw [← hx0] at c0 hor
      rw [← hx1] at c1 hor
      have b0 : 0 ≤ x0 ∧ x0 < 4294967296 := by omega
      have b1 : 0 ≤ x1 ∧ x1 < 4294967296 := by omega
      have bu : 0 ≤ u ∧ u < 18446744073709551616 := by omega
      have HU : Hid (u = (v : Int)) := hu
      obtain ⟨b00, b01⟩ := b0
      obtain ⟨b10, b11⟩ := b1
      obtain ⟨bu0, bu1⟩ := bu
      clear hz R hb hx0 hx1 d0 d1 hsum hu hv
      have fin : ∀ x y : Int, smV (sgn n v) = x ∧ smE (sgn n v) = y → Hid (smV (sgn n v) = x ∧ smE (sgn n v) = y) := fun _ _ h => h
      cases n
      · have es : sgn false v = u := by rw [HU.out]; rfl
        by_cases hu : 9223372036854775808 ≤ u
        · have HF := fin 0 10 (by rw [es]; exact ⟨smV_out (by omega), smE_out (by omega)⟩)
          clear fin es
          go_wp2_with fail
          go_quiet (fail)
          go_wp2
          go_ret2
          exact ⟨ret_two HF.out.1.symm HF.out.2.symm, wbelow_drewN HB.out nq⟩
        · have HF := fin u 0 (by rw [es]; exact ⟨smV_in (by omega) (by omega), smE_in (by omega) (by omega)⟩)
          clear fin es
          go_wp2_with fail
          go_quiet (fail)
          go_wp2
          go_ret2
          exact ⟨ret_two HF.out.1.symm HF.out.2.symm, wbelow_drewN HB.out nq⟩
      · have es : sgn true v = -u := by rw [HU.out]; rfl
        by_cases hu : u ≤ 9223372036854775808
        · have HF := fin (-u) 0 (by rw [es]; exact ⟨smV_in (by omega) (by omega), smE_in (by omega) (by omega)⟩)
          have e1 : wrap64 (IntKind.u64.wrap (-u)) = -u := by rw [IntKind.wrap_u64]; unfold wrap64; omega
          have e2 : IntKind.i64.wrap (IntKind.u64.wrap (-u)) = -u := by rw [IntKind.wrap_u64, IntKind.wrap_i64]; omega
          clear fin es
          go_wp2_with fail
          go_quiet (fail)
          go_wp2
          go_ret2
          exact ⟨ret_two HF.out.1.symm HF.out.2.symm, wbelow_drewN HB.out nq⟩
        · have HF := fin 0 10 (by rw [es]; exact ⟨smV_out (by omega), smE_out (by omega)⟩)
          clear fin es
          go_wp2_with fail
          go_quiet (fail)
          go_wp2
          go_ret2
          exact ⟨ret_two HF.out.1.symm HF.out.2.symm, wbelow_drewN HB.out nq⟩

end Go.Proofs.YtoglkfchiidmmaaDoor

/- Contracts, more: the reference's Plus and Minus of numbers with their signs; Add, Sub, Neg of the reference, and num.Sub, num.Neg. -/
namespace Go.Proofs.YtoglkfchiidmmaaDoor
open Go.RowKit
set_option linter.unusedVariables false

/-- a number of 192 bits as a value: its sign (nought has none) and its row. -/
def IsW (w : World) (v : Value) (x : Int) : Prop := ∃ b, v = .agg #[.bool (decide (x < 0)), .slice (some ⟨b, 0, none⟩) 6 6] ∧ Row w b x.natAbs
theorem IsW.below {w w1 : World} {v : Value} {x : Int} (h : IsW w v x) (hb : Below w.heap.size w w1) : IsW w1 v x := by
  obtain ⟨b, hv, hr⟩ := h
  exact ⟨b, hv, hr.below hb hr.2.1⟩

theorem wof (n : Int) (h1 : -9223372036854775808 ≤ n) (h2 : n ≤ 9223372036854775807) (w : World) :
    Calls Tryd.prog 16 #[.int .i64 n] w fun e w' => ∃ v, e = .returned v ∧ IsW w' v n ∧ Below w.heap.size w w' :=
  (rof_any n h1 h2 w).mono fun e w' ⟨b, he, hb, _, hr⟩ => ⟨_, he, ⟨b, rfl, hr⟩, hb⟩

theorem wplus (v u : Value) (x y : Int) (w : World) (hx : IsW w v x) (hy : IsW w u y) (hs : x.natAbs + y.natAbs < 4294967296 ^ 6) :
    Calls Tryd.prog 15 #[v, u] w fun e w' => ∃ v', e = .returned v' ∧ IsW w' v' (x + y) ∧ Below w.heap.size w w' := by
  obtain ⟨ba, rfl, ra⟩ := hx
  obtain ⟨bb, rfl, rb⟩ := hy
  by_cases sx : x < 0
  · by_cases sy : y < 0
    · rw [decide_eq_true sx, decide_eq_true sy]
      refine (plus_same true ba bb _ _ w ra rb hs).mono fun e w' ⟨b, he, hb, _, hr⟩ => ⟨_, he, ⟨b, by rw [decide_eq_true (show x + y < 0 by omega)], ?_⟩, hb⟩
      rw [show (x + y).natAbs = x.natAbs + y.natAbs by omega]; exact hr
    · rw [decide_eq_true sx, decide_eq_false sy]
      by_cases hl : x.natAbs < y.natAbs
      · refine (plus_lt true false rfl ba bb _ _ w ra rb hl).mono fun e w' ⟨b, he, hb, _, hr⟩ => ⟨_, he, ⟨b, by rw [decide_eq_false (show ¬ x + y < 0 by omega)], ?_⟩, hb⟩
        rw [show (x + y).natAbs = y.natAbs - x.natAbs by omega]; exact hr
      · refine (plus_ge_true ba bb _ _ w ra rb (by omega)).mono fun e w' ⟨b, he, hb, _, hr⟩ => ⟨_, he, ⟨b, ?_, ?_⟩, hb⟩
        · by_cases he2 : x.natAbs = y.natAbs
          · rw [cmpV_eq he2, decide_eq_false (show ¬ x + y < 0 by omega)]; rfl
          · rw [cmpV_gt (show y.natAbs < x.natAbs by omega), decide_eq_true (show x + y < 0 by omega)]; rfl
        · rw [show (x + y).natAbs = x.natAbs - y.natAbs by omega]; exact hr
  · by_cases sy : y < 0
    · rw [decide_eq_false sx, decide_eq_true sy]
      by_cases hl : x.natAbs < y.natAbs
      · refine (plus_lt false true rfl ba bb _ _ w ra rb hl).mono fun e w' ⟨b, he, hb, _, hr⟩ => ⟨_, he, ⟨b, by rw [decide_eq_true (show x + y < 0 by omega)], ?_⟩, hb⟩
        rw [show (x + y).natAbs = y.natAbs - x.natAbs by omega]; exact hr
      · refine (plus_ge_false ba bb _ _ w ra rb (by omega)).mono fun e w' ⟨b, he, hb, _, hr⟩ => ⟨_, he, ⟨b, by rw [decide_eq_false (show ¬ x + y < 0 by omega)], ?_⟩, hb⟩
        rw [show (x + y).natAbs = x.natAbs - y.natAbs by omega]; exact hr
    · rw [decide_eq_false sx, decide_eq_false sy]
      refine (plus_same false ba bb _ _ w ra rb hs).mono fun e w' ⟨b, he, hb, _, hr⟩ => ⟨_, he, ⟨b, by rw [decide_eq_false (show ¬ x + y < 0 by omega)], ?_⟩, hb⟩
      rw [show (x + y).natAbs = x.natAbs + y.natAbs by omega]; exact hr

theorem wminus (v : Value) (x : Int) (w : World) (hx : IsW w v x) :
    Calls Tryd.prog 17 #[v] w fun e w' => ∃ v', e = .returned v' ∧ IsW w' v' (-x) ∧ Below w.heap.size w w' := by
  obtain ⟨ba, rfl, ra⟩ := hx
  by_cases sx : x < 0
  · rw [decide_eq_true sx]
    refine (minus_true ba _ w ra).mono fun e w' ⟨he, hb⟩ => ⟨_, he, ⟨ba, by rw [decide_eq_false (show ¬ -x < 0 by omega)], ?_⟩, hb⟩
    rw [Int.natAbs_neg]; exact ra.below hb ra.2.1
  · rw [decide_eq_false sx]
    refine (minus_false ba _ _ w ra (fun w h => rzero_any ba _ w h)).mono fun e w' ⟨he, hb⟩ => ⟨_, he, ⟨ba, ?_, ?_⟩, hb⟩
    · by_cases z : x = 0
      · subst z; rfl
      · rw [decide_eq_true (show -x < 0 by omega), decide_eq_false (show ¬ x.natAbs = 0 by omega)]; rfl
    · rw [Int.natAbs_neg]; exact ra.below hb ra.2.1

theorem wsmall (v : Value) (x : Int) (w : World) (hx : IsW w v x) :
    Calls Tryd.prog 22 #[v] w fun e w' => e = .returned (.tuple #[.int .i64 (smV x), .int .i64 (smE x)]) ∧ Below w.heap.size w w' := by
  obtain ⟨b, rfl, r⟩ := hx
  have h := small_any (decide (x < 0)) b x.natAbs w r
  have e : sgn (decide (x < 0)) x.natAbs = x := by unfold sgn; by_cases s : x < 0 <;> simp [s] <;> omega
  rw [e] at h
  exact h

end Go.Proofs.YtoglkfchiidmmaaDoor

/- Contracts, more: Add, Sub, Neg of the reference, and num.Sub, num.Neg. -/
namespace Go.Proofs.YtoglkfchiidmmaaDoor
open Go.RowKit
set_option linter.unusedVariables false

theorem small_sum {a b : Int} (h1 : -9223372036854775808 ≤ a) (h2 : a ≤ 9223372036854775807) (h3 : -9223372036854775808 ≤ b) (h4 : b ≤ 9223372036854775807) : a.natAbs + b.natAbs < 4294967296 ^ 6 :=
  Nat.lt_of_le_of_lt (show a.natAbs + b.natAbs ≤ 18446744073709551616 by omega) (by decide)

set_option maxRecDepth 100000 in
set_option maxHeartbeats 1000000 in
theorem refadd_any (a b : Int) (h1 : -9223372036854775808 ≤ a) (h2 : a ≤ 9223372036854775807) (h3 : -9223372036854775808 ≤ b) (h4 : b ≤ 9223372036854775807) (w : World) :
    Calls Tryd.prog 12 #[.int .i64 a, .int .i64 b] w fun e w' => e = .returned (.tuple #[.int .i64 (smV (a + b)), .int .i64 (smE (a + b))]) ∧ Below w.heap.size w w' := by
  have HS : Hid (∀ (v : Value) (w : World), IsW w v (a + b) → Calls Tryd.prog 22 #[v] w fun e w' => e = .returned (.tuple #[.int .i64 (smV (a + b)), .int .i64 (smE (a + b))]) ∧ Below w.heap.size w w') := fun v w h => wsmall v _ w h
  generalize smV (a + b) = V at *
  generalize smE (a + b) = E at *
  go_enter Tryd.func12, Tryd.ntmps12
  go_wp2_with fail
  refine (wof a h1 h2 _).mono ?_
  rintro e w1 ⟨v1, rfl, W1, B1⟩
  go_wp2_with fail
  refine (wof b h3 h4 _).mono ?_
  rintro e w2 ⟨v2, rfl, W2, b2⟩
  have W1' := W1.below b2
  have B2 := B1.trans (b2.mono B1.size)
  clear W1 b2 B1
  go_wp2_with fail
  refine (wplus v1 v2 a b _ W1' W2 (small_sum h1 h2 h3 h4)).mono ?_
  rintro e w3 ⟨v3, rfl, W3, b3⟩
  have B3 := B2.trans (b3.mono B2.size)
  clear b3 B2
  go_wp2_with fail
  refine (HS.out v3 _ W3).mono ?_
  rintro e w4 ⟨rfl, b4⟩
  have B4 := B3.trans (b4.mono B3.size)
  go_wp2
  go_ret2
  exact ⟨rfl, B4⟩

end Go.Proofs.YtoglkfchiidmmaaDoor

/- The reference's Times: the product of two numbers of 64 bits with their signs. -/
namespace Go.Proofs.YtoglkfchiidmmaaDoor
open Go.RowKit
set_option linter.unusedVariables false

end Go.Proofs.YtoglkfchiidmmaaDoor

/- Contract of the reference's Times. -/
namespace Go.Proofs.YtoglkfchiidmmaaDoor
open Go.RowKit
set_option linter.unusedVariables false

abbrev tw (w : World) (n m : Bool) (ba bb : Nat) : World := ((w.alloc (box n ba)).alloc (box m bb)).alloc nobox

end Go.Proofs.YtoglkfchiidmmaaDoor

/- Contracts: the reference's Times of numbers with their signs, and its Mul. -/
namespace Go.Proofs.YtoglkfchiidmmaaDoor
open Go.RowKit
set_option linter.unusedVariables false

end Go.Proofs.YtoglkfchiidmmaaDoor

/- Mathematics of the reference's divide: one bit after another. -/
namespace Go.Proofs.YtoglkfchiidmmaaDoor
open Go.RowKit
set_option linter.unusedVariables false

theorem big_pow (k : Nat) : (4294967296 : Nat) ^ k = 2 ^ (32 * k) := by rw [Nat.pow_mul]
theorem dg_shift (v k : Nat) : Wd.dg v k = (v >>> (32 * k)) % 2 ^ 32 := by
  unfold Wd.dg
  rw [big_pow, Nat.shiftRight_eq_div_pow]
theorem dg_or (a b k : Nat) : Wd.dg (a ||| b) k = Wd.dg a k ||| Wd.dg b k := by
  rw [dg_shift, dg_shift, dg_shift, Nat.shiftRight_or_distrib, Nat.or_mod_two_pow]

/-- a bit of a number is the bit of its part. -/
theorem dg_bit (v i : Nat) : Wd.dg v (i / 32) / 2 ^ (i % 32) % 2 = v / 2 ^ i % 2 := by
  rw [dg_shift, Nat.shiftRight_eq_div_pow]
  have h32 : (2 : Nat) ^ 32 = 2 ^ (i % 32) * 2 ^ (32 - i % 32) := by rw [← Nat.pow_add]; congr 1; omega
  rw [h32, Nat.mod_mul_right_div_self, Nat.div_div_eq_div_mul, ← Nat.pow_add, show 32 * (i / 32) + i % 32 = i by omega]
  exact Nat.mod_mod_of_dvd _ (Nat.dvd_of_pow_dvd (show 1 ≤ 32 - i % 32 by omega) (Nat.dvd_refl _))
theorem top_bit (v i : Nat) : v / 2 ^ i = 2 * (v / 2 ^ (i + 1)) + v / 2 ^ i % 2 := by
  rw [Nat.pow_succ, ← Nat.div_div_eq_div_mul]; omega

/-- one bit more. -/
theorem long_lt (T v b : Nat) (hv : 0 < v) (hb : b ≤ 1) (h : 2 * (T % v) + b < v) : (2 * T + b) % v = 2 * (T % v) + b ∧ (2 * T + b) / v = 2 * (T / v) := by
  have e : 2 * T + b = (2 * (T % v) + b) + v * (2 * (T / v)) := by
    have := Nat.mod_add_div T v
    rw [Nat.mul_left_comm]; omega
  rw [e, Nat.add_mul_mod_self_left, Nat.add_mul_div_left _ _ hv, Nat.mod_eq_of_lt h, Nat.div_eq_of_lt h]
  constructor
  · rfl
  · omega
theorem long_ge (T v b : Nat) (hv : 0 < v) (hb : b ≤ 1) (h : v ≤ 2 * (T % v) + b) : (2 * T + b) % v = 2 * (T % v) + b - v ∧ (2 * T + b) / v = 2 * (T / v) + 1 := by
  have hl := Nat.mod_lt T hv
  have e : 2 * T + b = (2 * (T % v) + b - v) + v * (2 * (T / v) + 1) := by
    have := Nat.mod_add_div T v
    rw [Nat.mul_add, Nat.mul_left_comm]; omega
  rw [e, Nat.add_mul_mod_self_left, Nat.add_mul_div_left _ _ hv, Nat.mod_eq_of_lt (by omega), Nat.div_eq_of_lt (by omega)]
  constructor
  · rfl
  · omega

/-- the rest with its new bit. -/
theorem add_bit (r b : Nat) (hb : b ≤ 1) : 2 * r + b = 2 * r ||| b := by
  have h := Nat.shiftLeft_add_eq_or_of_lt (show b < 2 ^ 1 by omega) r
  rw [Nat.shiftLeft_eq, Nat.pow_one, Nat.mul_comm] at h
  exact h
theorem dg_low (b k : Nat) (hb : b ≤ 1) : Wd.dg b k = if k = 0 then b else 0 := by
  unfold Wd.dg
  by_cases h : k = 0
  · subst h; rw [if_pos rfl, Nat.pow_zero, Nat.div_one]; omega
  · rw [if_neg h, Nat.div_eq_of_lt (Nat.lt_of_lt_of_le (show b < 4294967296 ^ 1 by omega) (Nat.pow_le_pow_right (by decide) (by omega)))]
theorem rest_dg (r b k : Nat) (hb : b ≤ 1) : Wd.dg (2 * r + b) k = if k = 0 then Wd.dg (2 * r) k ||| b else Wd.dg (2 * r) k := by
  rw [add_bit r b hb, dg_or, dg_low b k hb]
  split
  · rfl
  · exact Nat.or_zero _

/-- the quotient with its new bit. -/
theorem dg_pow (i k : Nat) : Wd.dg (2 ^ i) k = if k = i / 32 then 2 ^ (i % 32) else 0 := by
  unfold Wd.dg
  rw [big_pow]
  by_cases h : k = i / 32
  · rw [if_pos h, Nat.pow_div (by omega) (by decide), show i - 32 * k = i % 32 by omega]
    exact Nat.mod_eq_of_lt (Nat.lt_of_lt_of_le (Nat.pow_lt_pow_right (by decide) (show i % 32 < 32 by omega)) (by decide))
  · rw [if_neg h]
    by_cases g : i < 32 * k
    · rw [Nat.div_eq_of_lt (Nat.pow_lt_pow_right (by decide) g)]
    · rw [Nat.pow_div (by omega) (by decide)]
      rw [show i - 32 * k = 32 + (i - 32 * k - 32) by omega, Nat.pow_add]
      exact Nat.mul_mod_right _ _
theorem quo_dg (Q i k : Nat) : Wd.dg ((2 * Q + 1) * 2 ^ i) k = if k = i / 32 then Wd.dg (Q * 2 ^ (i + 1)) k ||| 2 ^ (i % 32) else Wd.dg (Q * 2 ^ (i + 1)) k := by
  have h := Nat.shiftLeft_add_eq_or_of_lt (show 2 ^ i < 2 ^ (i + 1) from Nat.pow_lt_pow_right (by decide) (by omega)) Q
  rw [Nat.shiftLeft_eq] at h
  have e : (2 * Q + 1) * 2 ^ i = Q * 2 ^ (i + 1) + 2 ^ i := by
    rw [Nat.add_mul, Nat.one_mul, Nat.pow_succ, Nat.mul_comm 2 Q, Nat.mul_assoc, Nat.mul_comm 2]
  rw [e, h, dg_or, dg_pow]
  split
  · rfl
  · exact Nat.or_zero _
theorem quo_same (Q i : Nat) : 2 * Q * 2 ^ i = Q * 2 ^ (i + 1) := by
  rw [Nat.pow_succ, Nat.mul_comm 2 Q, Nat.mul_assoc, Nat.mul_comm 2]

end Go.Proofs.YtoglkfchiidmmaaDoor

/- Contract of the reference's divide. -/
namespace Go.Proofs.YtoglkfchiidmmaaDoor
open Go.RowKit
set_option linter.unusedVariables false

theorem Part.keep {w wr wr' : World} {N : Nat} {f : Nat → Nat} (h : Part w wr N f) (b : Below (N + 1) wr wr') : Part w wr' N f :=
  ⟨h.below.trans (b.mono (by omega)), Nat.lt_of_lt_of_le h.size b.size, fun j hj => (b.cell (p := ⟨N, j, none⟩) (Nat.lt_succ_self _)).trans (h.cell j hj), fun j hj => (b.frozen (p := ⟨N, j, none⟩) (Nat.lt_succ_self _)).trans (h.free j hj)⟩

set_option maxRecDepth 1000000 in
set_option maxHeartbeats 4000000 in
theorem divide_any (ba bb va vb : Nat) (w : World) (ha : Row w ba va) (hb : Row w bb vb) (hpos : 0 < vb) (hvb : vb < 18446744073709551616) :
    Calls Tryd.prog 27 #[.slice (some ⟨ba, 0, none⟩) 6 6, .slice (some ⟨bb, 0, none⟩) 6 6] w fun e w' => ∃ bq br, e = .returned (.tuple #[.slice (some ⟨bq, 0, none⟩) 6 6, .slice (some ⟨br, 0, none⟩) 6 6]) ∧ Below w.heap.size w w' ∧ w.heap.size ≤ bq ∧ w.heap.size ≤ br ∧ Row w' bq (va / vb) ∧ Row w' br (va % vb) := by
  have hmk := make_six
  go_enter Tryd.func27, Tryd.ntmps27
  go_wp2_with fail
  clear hmk
  go_loopw [7, 8] (fun r i wr => ∃ (n br : Nat), n ≤ 192 ∧ i = .int .i64 ((n : Int) - 1) ∧ r = .slice (some ⟨br, 0, none⟩) 6 6 ∧ w.heap.size < br ∧ Row wr br (va / 2 ^ n % vb) ∧ Part w wr w.heap.size (fun j => Wd.dg (va / 2 ^ n / vb * 2 ^ n) j)) (fun _ i _ => (intOf i + 1).toNat)
  case atStart =>
    have hz : va / 2 ^ 192 = 0 := Nat.div_eq_of_lt (Nat.lt_of_lt_of_le ha.1 (by decide))
    refine ⟨192, w.heap.size + 1, by omega, rfl, rfl, by omega, ?_, ?_⟩
    · rw [hz, Nat.zero_mod]
      have z := zeros (w.alloc (.cells #[.int .u64 0, .int .u64 0, .int .u64 0, .int .u64 0, .int .u64 0, .int .u64 0] 26)) 26
      have r := Part.row (v := 0) (z.congr (fun j _ => by simp [Wd.dg])) (by decide)
      simpa using r
    · rw [hz, Nat.zero_div, Nat.zero_mul]
      have z := zeros w 26
      have b := (Below.refl (w.heap.size + 1) (w.alloc (.cells #[.int .u64 0, .int .u64 0, .int .u64 0, .int .u64 0, .int .u64 0, .int .u64 0] 26))).alloc (by simp) (.cells #[.int .u64 0, .int .u64 0, .int .u64 0, .int .u64 0, .int .u64 0, .int .u64 0] 26)
      exact (z.keep b).congr (fun j _ => by simp [Wd.dg])
  case round =>
    obtain ⟨n, br, hn, hi, rfl, hbr, hR, hP⟩ := hrel
    rcases n with _ | k
    · rw [show (((0 : Nat) : Int) - 1) = -1 from rfl] at hi
      subst hi
      rw [Nat.pow_zero, Nat.div_one] at hR
      simp only [Nat.pow_zero, Nat.div_one, Nat.mul_one] at hP
      have HP : Hid (Part w wr w.heap.size (fun j => Wd.dg (va / vb) j)) := hP
      have HR : Hid (Row wr br (va % vb)) := hR
      clear hP hR
      go_wp2
      go_ret2
      exact ⟨_, _, rfl, HP.out.below, by omega, by omega, HP.out.row (Nat.lt_of_le_of_lt (Nat.div_le_self _ _) ha.1), HR.out⟩
    · rw [show (((k + 1 : Nat) : Int) - 1) = (k : Int) by omega] at hi
      subst hi
      have k0 : (0 : Int) ≤ (k : Int) := by omega
      have kk : (k : Int) < 192 := by omega
      obtain ⟨W, hWW⟩ : ∃ W, W = wr := ⟨wr, rfl⟩
      subst hWW
      obtain ⟨T, hT⟩ : ∃ T, T = va / 2 ^ (k + 1) := ⟨_, rfl⟩
      rw [← hT] at hR hP
      have HT : Hid (T = va / 2 ^ (k + 1)) := hT
      have HP : Hid (Part w W w.heap.size (fun j => Wd.dg (T / vb * 2 ^ (k + 1)) j)) := hP
      have HR : Hid (Row W br (T % vb)) := hR
      have HW : Hid (w.heap.size + 1 < W.heap.size) := by have := hR.2.1; show _ < _; omega
      have C1 := radd_any br br _ _ W hR hR
      rw [← Nat.two_mul] at C1
      have HC1 : Hid (Calls Tryd.prog 23 #[.slice (some ⟨br, 0, none⟩) 6 6, .slice (some ⟨br, 0, none⟩) 6 6] W fun e w' => e = .returned (.slice (some ⟨W.heap.size, 0, none⟩) 6 6) ∧ Part W w' W.heap.size (fun j => Wd.dg (2 * (T % vb)) j)) := C1
      clear C1 hT hR hP
      go_wp2_with fail
      refine HC1.out.mono ?_
      rintro e w1 ⟨rfl, hP1⟩
      obtain ⟨d, hd⟩ : ∃ d, d = k / 32 := ⟨_, rfl⟩
      obtain ⟨m, hm⟩ : ∃ m, m = k % 32 := ⟨_, rfl⟩
      have eA : w1.cell? ⟨ba, d, none⟩ = some (.int .u64 ((Wd.dg va d : Nat) : Int)) := (hP1.below.cell (p := ⟨ba, d, none⟩) (Nat.lt_trans ha.2.1 (by have := HW.out; omega))).trans ((HP.out.below.cell (p := ⟨ba, d, none⟩) ha.2.1).trans (ha.2.2 d (by omega)))
      have cR := hP1.cell 0 (by omega)
      have fR := hP1.free 0 (by omega)
      have HP1 : Hid (Part W w1 W.heap.size (fun j => Wd.dg (2 * (T % vb)) j)) := hP1
      clear hP1
      have HD : Hid (d = k / 32) := hd
      have HM : Hid (m = k % 32) := hm
      have q1 : (k : Int) / 32 = (d : Int) := by omega
      have q2 : (k : Int) % 32 = (m : Int) := by omega
      have q3 : Int.tdiv (k : Int) 32 = (d : Int) := by rw [Int.tdiv_eq_ediv_of_nonneg k0]; exact q1
      have q4 : Int.tmod (k : Int) 32 = (m : Int) := by rw [Int.tmod_eq_emod_of_nonneg k0]; exact q2
      have d6 : (d : Int) < 6 := by omega
      have d0 : (0 : Int) ≤ (d : Int) := by omega
      have m32 : (m : Int) < 32 := by omega
      have m0 : (0 : Int) ≤ (m : Int) := by omega
      clear hd hm
      generalize hgx : Wd.dg va d = x at *
      generalize hgy : Wd.dg (2 * (T % vb)) 0 = y at *
      have HX : Hid (Wd.dg va d = x) := hgx
      have HY : Hid (Wd.dg (2 * (T % vb)) 0 = y) := hgy
      have lx : x < 4294967296 := by rw [← hgx]; exact Wd.dg_lt _ _
      have ly : y < 4294967296 := by rw [← hgy]; exact Wd.dg_lt _ _
      clear hgx hgy
      obtain ⟨t, ht⟩ : ∃ t, t = va / 2 ^ k % 2 := ⟨_, rfl⟩
      have t1 : t ≤ 1 := by omega
      have HTk : Hid (va / 2 ^ k = 2 * T + t) := by show _ = _; rw [HT.out, ht]; exact top_bit va k
      have hxt : x / 2 ^ m % 2 = t := by rw [← HX.out, HD.out, HM.out, dg_bit]; exact ht.symm
      obtain ⟨z, hz⟩ : ∃ z, z = Wd.dg (2 * (T % vb) + t) 0 := ⟨_, rfl⟩
      have hv : bits .or .u64 (y : Int) (bits .and .u64 ((x : Int) / 2 ^ m) 1) = (z : Int) := by
        rw [castDivPow, show bits .and .u64 ((x / 2 ^ m : Nat) : Int) 1 = ((x / 2 ^ m &&& 1 : Nat) : Int) from bits_and_u64_nat _ 1 (Nat.lt_of_le_of_lt (Nat.div_le_self _ _) (by omega)) (by omega), Nat.and_one_is_mod, hxt, bits_or_u64_nat y t (by omega) (by omega), hz, rest_dg _ t 0 t1, if_pos rfl, HY.out]
      have HS : Hid (Part W (w1.setCell ⟨W.heap.size, 0, none⟩ (.int .u64 (z : Int))).drew W.heap.size (fun j => Wd.dg (2 * (T % vb) + t) j)) := ((HP1.out.set (k := 0) (x := z) (by omega)).congr (fun j _ => by
        rw [rest_dg _ t j t1]
        by_cases g : j = 0
        · subst g; rw [if_pos rfl, if_pos rfl, hz, rest_dg _ t 0 t1, if_pos rfl]
        · rw [if_neg g, if_neg g])).drew
      clear ht hxt hz
      go_wp2
      go_region
      all_goals (try go_wp2_with fail)
      obtain ⟨w2, hw2⟩ : ∃ w2, w2 = (w1.setCell ⟨W.heap.size, 0, none⟩ (.int .u64 (z : Int))).drew := ⟨_, rfl⟩
      rw [← hw2] at HS ⊢
      clear hw2 eA cR fR hv HP1
      have hlt := Nat.mod_lt T hpos
      have rows : Row w2 W.heap.size (2 * (T % vb) + t) := HS.out.row (Nat.lt_trans (show _ < 4294967296 ^ 3 by omega) (by decide))
      have rowb : Row w2 bb vb := (hb.below HP.out.below hb.2.1).below HS.out.below (Nat.lt_trans hb.2.1 (by have := HW.out; omega))
      have HP2 : Hid (Part w w2 w.heap.size (fun j => Wd.dg (T / vb * 2 ^ (k + 1)) j)) := HP.out.keep (HS.out.below.mono (by have := HW.out; omega))
      refine (rcmp_any _ _ _ _ w2 rows rowb).mono ?_
      rintro e w3 ⟨rfl, hB3⟩
      have HP3 : Hid (Part w w3 w.heap.size (fun j => Wd.dg (T / vb * 2 ^ (k + 1)) j)) := HP2.out.keep (hB3.mono (by have := HW.out; have := HS.out.size; omega))
      have HR3 : Hid (Row w3 W.heap.size (2 * (T % vb) + t)) := rows.below hB3 HS.out.size
      have HB3 : Hid (Row w3 bb vb) := rowb.below hB3 (Nat.lt_trans hb.2.1 (by have := HW.out; have := HS.out.size; omega))
      clear rows rowb hB3
      by_cases hge : vb ≤ 2 * (T % vb) + t
      · obtain ⟨e1, e2⟩ := long_ge T vb t hpos t1 hge
        obtain ⟨c, hc, c0⟩ : ∃ c, c = wcmpV (2 * (T % vb) + t) vb ∧ 0 ≤ c := ⟨_, rfl, by unfold wcmpV; split; omega; split <;> omega⟩
        rw [← hc]
        have HC4 : Hid (Calls Tryd.prog 25 #[.slice (some ⟨W.heap.size, 0, none⟩) 6 6, .slice (some ⟨bb, 0, none⟩) 6 6] w3 fun e w' => e = .returned (.slice (some ⟨w3.heap.size, 0, none⟩) 6 6) ∧ Part w3 w' w3.heap.size (fun j => Wd.dg (2 * (T % vb) + t - vb) j)) := rless_any _ _ _ _ w3 HR3.out HB3.out hge
        clear hc
        go_wp2_with fail
        refine HC4.out.mono ?_
        rintro e w4 ⟨rfl, hP4⟩
        have HP4 : Hid (Part w w4 w.heap.size (fun j => Wd.dg (T / vb * 2 ^ (k + 1)) j)) := HP3.out.keep (hP4.below.mono HP3.out.size)
        have cQ := HP4.out.cell d (by omega)
        have fQ := HP4.out.free d (by omega)
        have HR4 : Hid (Row w4 w3.heap.size (2 * (T % vb) + t - vb)) := hP4.row (Nat.lt_trans (show _ < 4294967296 ^ 3 by omega) (by decide))
        have HE : Hid ((2 * T + t) % vb = 2 * (T % vb) + t - vb ∧ (2 * T + t) / vb = 2 * (T / vb) + 1) := ⟨e1, e2⟩
        clear hP4 e1 e2 hge
        generalize hgu : Wd.dg (T / vb * 2 ^ (k + 1)) d = u at *
        have HU : Hid (Wd.dg (T / vb * 2 ^ (k + 1)) d = u) := hgu
        have lu : u < 4294967296 := by rw [← hgu]; exact Wd.dg_lt _ _
        clear hgu
        have lm : 2 ^ m < 4294967296 := Nat.lt_of_lt_of_le (Nat.pow_lt_pow_right (by decide) (show m < 32 by omega)) (by decide)
        have HQ : Hid (bits .or .u64 (u : Int) (IntKind.u64.wrap (2 ^ m)) = ((u ||| 2 ^ m : Nat) : Int)) := by
          show _ = _
          rw [show ((2 : Int) ^ m) = ((2 ^ m : Nat) : Int) by simp, castWrap _ (by omega), bits_or_u64_nat _ _ (by omega) (by omega)]
        go_wp2
        rw [HQ.out]
        refine ⟨⟨k, w3.heap.size, by omega, rfl, rfl, by have := HP3.out.size; omega, ?_, ?_⟩, by simp [intOf] <;> omega⟩
        · rw [HTk.out, HE.out.1]
          exact HR4.out.setCell (a := ⟨w.heap.size, d, none⟩) (Nat.ne_of_lt HP3.out.size) _
        · rw [HTk.out, HE.out.2]
          refine (HP4.out.set (k := d) (x := u ||| 2 ^ m) (by omega)).congr (fun j _ => ?_)
          rw [quo_dg, ← HD.out, ← HM.out]
          by_cases g : j = d
          · subst g; rw [if_pos rfl, if_pos rfl, HU.out]
          · rw [if_neg g, if_neg g]
      · obtain ⟨e1, e2⟩ := long_lt T vb t hpos t1 (by omega)
        have HE : Hid ((2 * T + t) % vb = 2 * (T % vb) + t ∧ (2 * T + t) / vb = 2 * (T / vb)) := ⟨e1, e2⟩
        rw [cmpV_lt (by omega)]
        clear e1 e2 hge
        go_wp2
        refine ⟨⟨k, W.heap.size, by omega, by go_num, rfl, by have := HW.out; omega, ?_, ?_⟩, by simp [intOf]⟩
        · rw [HTk.out, HE.out.1]; exact HR3.out
        · rw [HTk.out, HE.out.2, quo_same]; exact HP3.out

end Go.Proofs.YtoglkfchiidmmaaDoor

/- Contract of the reference's Over. -/
namespace Go.Proofs.YtoglkfchiidmmaaDoor
open Go.RowKit
set_option linter.unusedVariables false

theorem field_w (s : Bool) (b : Nat) (w : World) : (Instr.field 40 (.agg #[.bool s, .slice (some ⟨b, 0, none⟩) 6 6]) 1).run Tryd.prog w = .ok (.slice (some ⟨b, 0, none⟩) 6 6) w := by kernel_rfl

set_option maxRecDepth 1000000 in
set_option maxHeartbeats 4000000 in
theorem over_same (n : Bool) (ba bb va vb : Nat) (w : World) (ha : Row w ba va) (hb : Row w bb vb) (hpos : 0 < vb) (hvb : vb < 18446744073709551616) :
    Calls Tryd.prog 18 #[.agg #[.bool n, .slice (some ⟨ba, 0, none⟩) 6 6], .agg #[.bool n, .slice (some ⟨bb, 0, none⟩) 6 6]] w fun e w' => ∃ b, e = .returned (.agg #[.bool false, .slice (some ⟨b, 0, none⟩) 6 6]) ∧ Below w.heap.size w w' ∧ Row w' b (va / vb) := by
  have HA : Hid (Row (tw w n n ba bb) ba va) := (((ha.alloc _).alloc _).alloc _)
  have HB : Hid (Row (tw w n n ba bb) bb vb) := (((hb.alloc _).alloc _).alloc _)
  go_enter Tryd.func18, Tryd.ntmps18
  go_wp2_with fail
  refine (divide_any ba bb va vb (tw w n n ba bb) HA.out HB.out hpos hvb).mono ?_
  rintro e w1 ⟨bq, br, rfl, hB, h1, h2, hQ, hR⟩
  have e3 : (tw w n n ba bb).heap.size = w.heap.size + 1 + 1 + 1 := size3 _ _ _
  rw [e3] at hB h1 h2
  have HBW : Hid (Below (w.heap.size + 1 + 1 + 1) (tw w n n ba bb) w1) := hB
  have HQ : Hid (Row w1 bq (va / vb)) := hQ
  obtain ⟨c1, c2, c3, c4, c5, c6, f5, f6⟩ := boxes hB
  clear hB hQ hR e3
  go_wp2
  refine bodyPost_ret (v := .agg #[.bool false, .slice (some ⟨bq, 0, none⟩) 6 6]) (by simp [results, Tryd.results18, go_sem, c5, c6]) rfl ⟨bq, rfl, ?_, ?_⟩
  · exact (((three _ _ _).trans (HBW.out.mono (by omega))).setCell (Nat.le_trans (Nat.le_add_right _ 2) (Nat.le_refl _)) _).setCell (Nat.le_trans (Nat.le_add_right _ 2) (Nat.le_refl _)) _
  · exact (HQ.out.setCell (a := ⟨w.heap.size + 1 + 1, 0, none⟩) (show w.heap.size + 1 + 1 ≠ bq by omega) _).setCell (a := ⟨w.heap.size + 1 + 1, 1, none⟩) (show w.heap.size + 1 + 1 ≠ bq by omega) _

set_option maxRecDepth 1000000 in
set_option maxHeartbeats 4000000 in
theorem over_exact (n m : Bool) (hnm : ¬ n = m) (ba bb va vb : Nat) (w : World) (ha : Row w ba va) (hb : Row w bb vb) (hpos : 0 < vb) (hvb : vb < 18446744073709551616) (hz : va % vb = 0) :
    Calls Tryd.prog 18 #[.agg #[.bool n, .slice (some ⟨ba, 0, none⟩) 6 6], .agg #[.bool m, .slice (some ⟨bb, 0, none⟩) 6 6]] w fun e w' => ∃ b, e = .returned (.agg #[.bool (!decide (va / vb = 0)), .slice (some ⟨b, 0, none⟩) 6 6]) ∧ Below w.heap.size w w' ∧ Row w' b (va / vb) := by
  have HA : Hid (Row (tw w n m ba bb) ba va) := (((ha.alloc _).alloc _).alloc _)
  have HB : Hid (Row (tw w n m ba bb) bb vb) := (((hb.alloc _).alloc _).alloc _)
  have hnm' : (n == m) = false := by cases n <;> cases m <;> simp_all
  have hnn : (n != m) = true := by cases n <;> cases m <;> simp_all
  go_enter Tryd.func18, Tryd.ntmps18
  go_wp2_with fail
  refine (divide_any ba bb va vb (tw w n m ba bb) HA.out HB.out hpos hvb).mono ?_
  rintro e w1 ⟨bq, br, rfl, hB, h1, h2, hQ, hR⟩
  have e3 : (tw w n m ba bb).heap.size = w.heap.size + 1 + 1 + 1 := size3 _ _ _
  rw [e3] at hB h1 h2
  have HZ1 := rzero_any br _ w1 hR
  have HBW : Hid (Below (w.heap.size + 1 + 1 + 1) (tw w n m ba bb) w1) := hB
  have hs1 : w.heap.size + 1 + 1 + 1 ≤ w1.heap.size := by have := hB.size; rw [e3] at this; exact this
  have HQ : Hid (Row w1 bq (va / vb)) := hQ
  rw [decide_eq_true hz] at HZ1
  have HZ : Hid (Calls Tryd.prog 26 #[.slice (some ⟨br, 0, none⟩) 6 6] w1 fun e w' => e = .returned (.bool true) ∧ Below w1.heap.size w1 w') := HZ1
  obtain ⟨c1, c2, c3, c4, c5, c6, f5, f6⟩ := boxes hB
  clear hB hQ hR e3 hz HZ1
  go_wp2_with fail
  refine HZ.out.mono ?_
  rintro e w2 ⟨rfl, hB2⟩
  have HB2 : Hid (Below (w.heap.size + 1 + 1 + 1) (tw w n m ba bb) w2) := HBW.out.trans (hB2.mono hs1)
  have HQ2 : Hid (Row w2 bq (va / vb)) := HQ.out.below hB2 HQ.out.2.1
  have hs2 : w1.heap.size ≤ w2.heap.size := hB2.size
  clear c1 c2 c3 c4 c5 c6 f5 f6 hB2
  obtain ⟨c1, c2, c3, c4, c5, c6, f5, f6⟩ := boxes HB2.out
  go_wp2_with fail
  refine (rzero_any bq _ w2 HQ2.out).mono ?_
  rintro e w3 ⟨rfl, hB3⟩
  have HB3 : Hid (Below (w.heap.size + 1 + 1 + 1) (tw w n m ba bb) w3) := HB2.out.trans (hB3.mono (by omega))
  have HQ3 : Hid (Row w3 bq (va / vb)) := HQ2.out.below hB3 HQ2.out.2.1
  clear c1 c2 c3 c4 c5 c6 f5 f6 hB3
  obtain ⟨c1, c2, c3, c4, c5, c6, f5, f6⟩ := boxes HB3.out
  obtain ⟨Z, hZ⟩ : ∃ Z, Z = decide (va / vb = 0) := ⟨_, rfl⟩
  rw [← hZ]
  have HZZ : Hid (Z = decide (va / vb = 0)) := hZ
  clear hZ
  go_wp2
  refine bodyPost_ret (v := .agg #[.bool (!Z), .slice (some ⟨bq, 0, none⟩) 6 6]) (by simp [results, Tryd.results18, go_sem, c5, c6]) rfl ⟨bq, by rw [HZZ.out], ?_, ?_⟩
  · exact (((three _ _ _).trans (HB3.out.mono (by omega))).setCell (Nat.le_trans (Nat.le_add_right _ 2) (Nat.le_refl _)) _).setCell (Nat.le_trans (Nat.le_add_right _ 2) (Nat.le_refl _)) _
  · exact (HQ3.out.setCell (a := ⟨w.heap.size + 1 + 1, 0, none⟩) (show w.heap.size + 1 + 1 ≠ bq by omega) _).setCell (a := ⟨w.heap.size + 1 + 1, 1, none⟩) (show w.heap.size + 1 + 1 ≠ bq by omega) _

set_option maxRecDepth 1000000 in
set_option maxHeartbeats 4000000 in
theorem over_rest (n m : Bool) (hnm : ¬ n = m) (ba bb va vb : Nat) (w : World) (ha : Row w ba va) (hb : Row w bb vb) (hpos : 0 < vb) (hvb : vb < 18446744073709551616) (hz : ¬ va % vb = 0) (hva : va < 4294967296 ^ 5) :
    Calls Tryd.prog 18 #[.agg #[.bool n, .slice (some ⟨ba, 0, none⟩) 6 6], .agg #[.bool m, .slice (some ⟨bb, 0, none⟩) 6 6]] w fun e w' => ∃ b, e = .returned (.agg #[.bool true, .slice (some ⟨b, 0, none⟩) 6 6]) ∧ Below w.heap.size w w' ∧ Row w' b (va / vb + 1) := by
  have HA : Hid (Row (tw w n m ba bb) ba va) := (((ha.alloc _).alloc _).alloc _)
  have HB : Hid (Row (tw w n m ba bb) bb vb) := (((hb.alloc _).alloc _).alloc _)
  have hnm' : (n == m) = false := by cases n <;> cases m <;> simp_all
  have hnn : (n != m) = true := by cases n <;> cases m <;> simp_all
  go_enter Tryd.func18, Tryd.ntmps18
  go_wp2_with fail
  refine (divide_any ba bb va vb (tw w n m ba bb) HA.out HB.out hpos hvb).mono ?_
  rintro e w1 ⟨bq, br, rfl, hB, h1, h2, hQ, hR⟩
  have e3 : (tw w n m ba bb).heap.size = w.heap.size + 1 + 1 + 1 := size3 _ _ _
  rw [e3] at hB h1 h2
  have HZ1 := rzero_any br _ w1 hR
  have HBW : Hid (Below (w.heap.size + 1 + 1 + 1) (tw w n m ba bb) w1) := hB
  have hs1 : w.heap.size + 1 + 1 + 1 ≤ w1.heap.size := by have := hB.size; rw [e3] at this; exact this
  have HQ : Hid (Row w1 bq (va / vb)) := hQ
  rw [decide_eq_false hz] at HZ1
  have HZ : Hid (Calls Tryd.prog 26 #[.slice (some ⟨br, 0, none⟩) 6 6] w1 fun e w' => e = .returned (.bool false) ∧ Below w1.heap.size w1 w') := HZ1
  obtain ⟨c1, c2, c3, c4, c5, c6, f5, f6⟩ := boxes hB
  clear hB hQ hR e3 hz HZ1
  go_wp2_with fail
  refine HZ.out.mono ?_
  rintro e w2 ⟨rfl, hB2⟩
  have HB2 : Hid (Below (w.heap.size + 1 + 1 + 1) (tw w n m ba bb) w2) := HBW.out.trans (hB2.mono hs1)
  have HQ2 : Hid (Row w2 bq (va / vb)) := HQ.out.below hB2 HQ.out.2.1
  have hs2 : w1.heap.size ≤ w2.heap.size := hB2.size
  clear c1 c2 c3 c4 c5 c6 f5 f6 hB2
  obtain ⟨c1, c2, c3, c4, c5, c6, f5, f6⟩ := boxes HB2.out
  go_wp2_with fail
  refine (rof_any 1 (by omega) (by omega) w2).mono ?_
  rintro e w3 ⟨b1, rfl, hB3, hb1, hO⟩
  have HB3 : Hid (Below (w.heap.size + 1 + 1 + 1) (tw w n m ba bb) w3) := HB2.out.trans (hB3.mono (by omega))
  have HQ3 : Hid (Row w3 bq (va / vb)) := HQ2.out.below hB3 HQ2.out.2.1
  have HO : Hid (Row w3 b1 1) := hO
  have hs3 : w2.heap.size ≤ w3.heap.size := hB3.size
  have HC4 : Hid (Calls Tryd.prog 23 #[.slice (some ⟨bq, 0, none⟩) 6 6, .slice (some ⟨b1, 0, none⟩) 6 6] w3 fun e w' => e = .returned (.slice (some ⟨w3.heap.size, 0, none⟩) 6 6) ∧ Part w3 w' w3.heap.size (fun j => Wd.dg (va / vb + 1) j)) := radd_any _ _ _ _ w3 HQ3.out HO.out
  clear c1 c2 c3 c4 c5 c6 f5 f6 hB3 hO
  obtain ⟨c1, c2, c3, c4, c5, c6, f5, f6⟩ := boxes HB3.out
  have hfl := field_w
  go_wp2_with fail
  clear hfl
  refine HC4.out.mono ?_
  rintro e w4 ⟨rfl, hP4⟩
  have hlt : va / vb + 1 < 4294967296 ^ 6 := Nat.lt_of_le_of_lt (Nat.succ_le_succ (Nat.div_le_self _ _)) (Nat.lt_of_le_of_lt (Nat.succ_le_of_lt hva) (by decide))
  have HB4 : Hid (Below (w.heap.size + 1 + 1 + 1) (tw w n m ba bb) w4) := HB3.out.trans (hP4.below.mono (by omega))
  have HQ4 : Hid (Row w4 w3.heap.size (va / vb + 1)) := hP4.row hlt
  have hs4 := hP4.size
  have C5 := rzero_any w3.heap.size _ w4 HQ4.out
  rw [decide_eq_false (Nat.succ_ne_zero (va / vb))] at C5
  have HC5 : Hid (Calls Tryd.prog 26 #[.slice (some ⟨w3.heap.size, 0, none⟩) 6 6] w4 fun e w' => e = .returned (.bool false) ∧ Below w4.heap.size w4 w') := C5
  clear c1 c2 c3 c4 c5 c6 f5 f6 hP4 hlt C5
  obtain ⟨c1, c2, c3, c4, c5, c6, f5, f6⟩ := boxes HB4.out
  go_wp2_with fail
  refine HC5.out.mono ?_
  rintro e w5 ⟨rfl, hB5⟩
  have HB5 : Hid (Below (w.heap.size + 1 + 1 + 1) (tw w n m ba bb) w5) := HB4.out.trans (hB5.mono (by omega))
  have HQ5 : Hid (Row w5 w3.heap.size (va / vb + 1)) := HQ4.out.below hB5 HQ4.out.2.1
  clear c1 c2 c3 c4 c5 c6 f5 f6 hB5
  obtain ⟨c1, c2, c3, c4, c5, c6, f5, f6⟩ := boxes HB5.out
  go_wp2
  refine bodyPost_ret (v := .agg #[.bool true, .slice (some ⟨w3.heap.size, 0, none⟩) 6 6]) (by simp [results, Tryd.results18, go_sem, c5, c6]) rfl ⟨w3.heap.size, rfl, ?_, ?_⟩
  · exact (((three _ _ _).trans (HB5.out.mono (by omega))).setCell (Nat.le_trans (Nat.le_add_right _ 2) (Nat.le_refl _)) _).setCell (Nat.le_trans (Nat.le_add_right _ 2) (Nat.le_refl _)) _
  · exact (HQ5.out.setCell (a := ⟨w.heap.size + 1 + 1, 0, none⟩) (show w.heap.size + 1 + 1 ≠ w3.heap.size by omega) _).setCell (a := ⟨w.heap.size + 1 + 1, 1, none⟩) (show w.heap.size + 1 + 1 ≠ w3.heap.size by omega) _

theorem over_math (x c : Int) (hc : c ≠ 0) : x.fdiv c = if (decide (x < 0) != decide (c < 0)) = true then (if x.natAbs % c.natAbs = 0 then -((x.natAbs / c.natAbs : Nat) : Int) else -((x.natAbs / c.natAbs : Nat) : Int) - 1) else ((x.natAbs / c.natAbs : Nat) : Int) := by
  have h := scale_math x 1 c x.natAbs c.natAbs (by simp) rfl hc
  rw [Int.mul_one, show decide ((1 : Int) < 0) = false from rfl, Bool.bne_false] at h
  exact h

theorem wover (v u : Value) (x y : Int) (w : World) (hx : IsW w v x) (hy : IsW w u y) (h0 : y ≠ 0) (h1 : x.natAbs < 4294967296 ^ 5) (h2 : y.natAbs < 18446744073709551616) :
    Calls Tryd.prog 18 #[v, u] w fun e w' => ∃ v', e = .returned v' ∧ IsW w' v' (x.fdiv y) ∧ Below w.heap.size w w' := by
  obtain ⟨ba, rfl, ra⟩ := hx
  obtain ⟨bb, rfl, rb⟩ := hy
  have hm := over_math x y h0
  have hp : 0 < y.natAbs := by omega
  generalize hQ : x.natAbs / y.natAbs = Q at *
  generalize hR : x.natAbs % y.natAbs = R at *
  by_cases hs : decide (x < 0) = decide (y < 0)
  · rw [hs, show (decide (y < 0) != decide (y < 0)) = false by simp, if_neg (by decide)] at hm
    rw [hs]
    refine (over_same _ ba bb _ _ w ra rb hp h2).mono fun e w' ⟨b, he, hb, hr⟩ => ⟨_, he, ⟨b, ?_, ?_⟩, hb⟩
    · rw [hm, decide_eq_false (show ¬ (Q : Int) < 0 by omega)]
    · rw [hm, Int.natAbs_natCast, ← hQ]; exact hr
  · have hs' : (decide (x < 0) != decide (y < 0)) = true := by
      generalize decide (x < 0) = p at *
      generalize decide (y < 0) = q at *
      cases p <;> cases q <;> simp_all
    rw [if_pos hs'] at hm
    by_cases hz : R = 0
    · rw [if_pos hz] at hm
      refine (over_exact _ _ hs ba bb _ _ w ra rb hp h2 (by rw [hR]; exact hz)).mono fun e w' ⟨b, he, hb, hr⟩ => ⟨_, he, ⟨b, ?_, ?_⟩, hb⟩
      · rw [hQ, hm]
        by_cases hq : Q = 0
        · rw [decide_eq_true hq, decide_eq_false (show ¬ -(Q : Int) < 0 by omega)]; rfl
        · rw [decide_eq_false hq, decide_eq_true (show -(Q : Int) < 0 by omega)]; rfl
      · rw [hm, Int.natAbs_neg, Int.natAbs_natCast, ← hQ]; exact hr
    · rw [if_neg hz] at hm
      refine (over_rest _ _ hs ba bb _ _ w ra rb hp h2 (by rw [hR]; exact hz) h1).mono fun e w' ⟨b, he, hb, hr⟩ => ⟨_, he, ⟨b, ?_, ?_⟩, hb⟩
      · rw [hm, decide_eq_true (show -(Q : Int) - 1 < 0 by omega)]
      · rw [hm, show (-(Q : Int) - 1).natAbs = Q + 1 by omega, ← hQ]; exact hr

end Go.Proofs.YtoglkfchiidmmaaDoor

/- Contracts: the reference's Scale, Div and Mod. -/
namespace Go.Proofs.YtoglkfchiidmmaaDoor
open Go.RowKit
set_option linter.unusedVariables false

end Go.Proofs.YtoglkfchiidmmaaDoor

/- Contracts: the reference's Mod; num.Div and num.Mod for every two numbers. -/
namespace Go.Proofs.YtoglkfchiidmmaaDoor
open Go.RowKit
set_option linter.unusedVariables false

end Go.Proofs.YtoglkfchiidmmaaDoor
