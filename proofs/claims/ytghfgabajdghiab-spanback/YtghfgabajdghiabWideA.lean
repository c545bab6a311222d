/- Contracts of the reference's numbers of 192 bits: a row of six parts in memory says a number; add, less, cmp, zero. -/
import Derived.Test.YtghfgabajdghiabNumC
import Derived.Test.YtghfgabajdghiabWideMath
import Derived.RegionTactic
import Derived.ChangeAlike
namespace Go.Proofs.Ytghfgabajdghiab
open Go.RowKit
set_option linter.unusedVariables false

/-- the six cells of block b say the number v. -/
def Row (w : World) (b v : Nat) : Prop := v < 4294967296 ^ 6 ∧ b < w.heap.size ∧ ∀ i, i < 6 → w.cell? ⟨b, i, none⟩ = some (.int .u64 ((Wd.dg v i : Nat) : Int))
theorem Row.below {w w' : World} {B b v : Nat} (h : Row w b v) (hb : Below B w w') (hB : b < B) : Row w' b v :=
  ⟨h.1, Nat.lt_of_lt_of_le h.2.1 hb.size, fun i hi => (hb.cell (p := ⟨b, i, none⟩) hB).trans (h.2.2 i hi)⟩
theorem Row.drew {w : World} {b v : Nat} (h : Row w b v) : Row w.drew b v := h
/-- a block of the call's own, of six parts. -/
structure Part (w wr : World) (N : Nat) (f : Nat → Nat) : Prop where
  below : Below N w wr
  size : N < wr.heap.size
  cell : ∀ j, j < 6 → wr.cell? ⟨N, j, none⟩ = some (.int .u64 ((f j : Nat) : Int))
  free : ∀ j, j < 6 → wr.frozen? ⟨N, j, none⟩ = false
theorem Part.congr {w wr : World} {N : Nat} {f g : Nat → Nat} (h : Part w wr N f) (e : ∀ j, j < 6 → f j = g j) : Part w wr N g :=
  ⟨h.below, h.size, fun j hj => by rw [← e j hj]; exact h.cell j hj, h.free⟩
theorem Part.drew {w wr : World} {N : Nat} {f : Nat → Nat} (h : Part w wr N f) : Part w wr.drew N f := ⟨h.below.drew, h.size, h.cell, h.free⟩
theorem Part.set {w wr : World} {N k x : Nat} {f : Nat → Nat} (h : Part w wr N f) (hk : k < 6) : Part w (wr.setCell ⟨N, k, none⟩ (.int .u64 (x : Int))) N (fun j => if j = k then x else f j) := by
  refine ⟨h.below.setCell (Nat.le_refl _) _, by simpa [World.setCell] using h.size, fun j hj => ?_, fun j hj => ?_⟩
  · by_cases e : j = k
    · subst e
      rw [if_pos rfl]
      exact World.cell?_setCell_same _ _ _ (h.cell j hj)
    · rw [if_neg e]
      exact (World.cell?_setCell_other _ _ _ _ (fun x => by cases x; exact e rfl)).trans (h.cell j hj)
  · rw [World.frozen?_setCell]; exact h.free j hj

theorem zeros (w : World) (E : TypeId) : Part w (w.alloc (.cells #[.int .u64 0, .int .u64 0, .int .u64 0, .int .u64 0, .int .u64 0, .int .u64 0] E)) w.heap.size (fun _ => 0) := by
  refine ⟨(Below.refl _ _).alloc (Nat.le_refl _) _, by simp, fun j hj => ?_, fun j hj => World.frozen?_alloc_at _ _ _ _ rfl⟩
  rw [World.cell?_alloc_at _ _ _ _ rfl]
  match j, hj with
  | 0, _ => rfl
  | 1, _ => rfl
  | 2, _ => rfl
  | 3, _ => rfl
  | 4, _ => rfl
  | 5, _ => rfl

theorem wret_bool {a b : Bool} (h : a = b) : Ending.returned (.bool a) = .returned (.bool b) := by rw [h]

theorem make_six (w : World) : (Instr.makeSlice 50 (.int .i64 6) (.int .i64 6)).run Try.prog w = .ok (.slice (some ⟨w.heap.size, 0, none⟩) 6 6) (w.alloc (.cells #[.int .u64 0, .int .u64 0, .int .u64 0, .int .u64 0, .int .u64 0, .int .u64 0] 65)) := by kernel_rfl

theorem add_cells (a b k : Nat) : bits .and .u64 ((Wd.cy a b k : Int) + (Wd.dg a k : Int) + (Wd.dg b k : Int)) 4294967295 = ((Wd.dg (a + b) k : Nat) : Int) ∧ ((Wd.cy a b k : Int) + (Wd.dg a k : Int) + (Wd.dg b k : Int)) / 4294967296 = ((Wd.cy a b (k + 1) : Nat) : Int) := by
  obtain ⟨e1, e2⟩ := Wd.add_dg a b k
  have l0 := Wd.cy_01 a b k
  have l1 := Wd.dg_lt a k
  have l2 := Wd.dg_lt b k
  rw [castAdd, castAdd, andLow _ (by omega), castDiv, e1, e2]
  exact ⟨rfl, rfl⟩

set_option maxRecDepth 100000 in
set_option maxHeartbeats 1000000 in
theorem radd_any (ba bb va vb : Nat) (w : World) (ha : Row w ba va) (hb : Row w bb vb) :
    Calls Try.prog 55 #[.slice (some ⟨ba, 0, none⟩) 6 6, .slice (some ⟨bb, 0, none⟩) 6 6] w fun e w' => e = .returned (.slice (some ⟨w.heap.size, 0, none⟩) 6 6) ∧ Part w w' w.heap.size (fun j => Wd.dg (va + vb) j) := by
  have hmk := make_six
  have la := ha.2.1
  have lb := hb.2.1
  go_enter Try.func55, Try.ntmps55
  go_wp2_with fail
  clear hmk
  go_loopw [6, 7] (fun c i wr => ∃ k : Nat, k ≤ 6 ∧ i = .int .i64 k ∧ c = .int .u64 ((Wd.cy va vb k : Nat) : Int) ∧ Part w wr w.heap.size (fun j => if j < k then Wd.dg (va + vb) j else 0)) (fun _ i _ => 6 - (intOf i).toNat)
  case atStart => exact ⟨0, by omega, rfl, by rw [Wd.cy_zero]; rfl, (zeros w _).congr (fun j _ => by simp)⟩
  case round =>
    obtain ⟨k, hk, rfl, rfl, hP⟩ := hrel
    by_cases hlt : k < 6
    · have ca : wr.cell? ⟨ba, k, none⟩ = some (.int .u64 ((Wd.dg va k : Nat) : Int)) := (hP.below.cell (p := ⟨ba, k, none⟩) la).trans (ha.2.2 k hlt)
      have cb : wr.cell? ⟨bb, k, none⟩ = some (.int .u64 ((Wd.dg vb k : Nat) : Int)) := (hP.below.cell (p := ⟨bb, k, none⟩) lb).trans (hb.2.2 k hlt)
      have cN := hP.cell k hlt
      have fN := hP.free k hlt
      obtain ⟨e1, e2⟩ := add_cells va vb k
      have l0 := Wd.cy_01 va vb k
      have l1 := Wd.dg_lt va k
      have l2 := Wd.dg_lt vb k
      have hS := Part.set (x := Wd.dg (va + vb) k) hP.drew hlt
      have HS : Hid (Part w (wr.drew.setCell ⟨w.heap.size, k, none⟩ (.int .u64 ((Wd.dg (va + vb) k : Nat) : Int))) w.heap.size (fun j => if j < k + 1 then Wd.dg (va + vb) j else 0)) := hS.congr (fun j _ => by
        by_cases g : j = k
        · subst g; simp
        · by_cases g2 : j < k
          · simp [g, g2, Nat.lt_succ_of_lt g2]
          · simp [g, g2, show ¬ j < k + 1 by omega])
      have HC : Hid (Wd.cy va vb (k + 1) = Wd.cy va vb (k + 1)) := rfl
      generalize Wd.cy va vb k = C at *
      generalize hC' : Wd.cy va vb (k + 1) = C' at *
      have HC' : Hid (Wd.cy va vb (k + 1) = C') := hC'
      generalize Wd.dg va k = x at *
      generalize Wd.dg vb k = y at *
      generalize Wd.dg (va + vb) k = z at *
      clear hS hP hC' HC
      go_wp2
      go_region
      all_goals (try go_wp2)
      exact ⟨⟨k + 1, by omega, by go_num, by rw [HC'.out], HS.out⟩, by simp [intOf]; omega⟩
    · have HP : Hid (Part w wr w.heap.size (fun j => Wd.dg (va + vb) j)) := hP.congr (fun j hj => by simp [show j < k by omega])
      clear hP
      go_wp2
      go_ret
      exact ⟨rfl, HP.out⟩

theorem less_cells (a b k : Nat) (h : b ≤ a) : ∃ q : Nat, bits .and .u64 ((Wd.dg a k : Int) + 4294967296 - (Wd.dg b k : Int) - (Wd.bw a b k : Int)) 4294967295 = ((Wd.dg (a - b) k : Nat) : Int) ∧ ((Wd.dg a k : Int) + 4294967296 - (Wd.dg b k : Int) - (Wd.bw a b k : Int)) / 4294967296 = (q : Int) ∧ (1 : Int) - (q : Int) = ((Wd.bw a b (k + 1) : Nat) : Int) := by
  obtain ⟨e1, e2⟩ := Wd.sub_dg a b k h
  have l0 := Wd.bw_01 a b k
  have l1 := Wd.dg_lt a k
  have l2 := Wd.dg_lt b k
  refine ⟨(Wd.dg a k + 4294967296 - Wd.dg b k - Wd.bw a b k) / 4294967296, ?_, ?_, ?_⟩
  · rw [← e1, show ((Wd.dg a k : Int) + 4294967296 - (Wd.dg b k : Int) - (Wd.bw a b k : Int)) = ((Wd.dg a k + 4294967296 - Wd.dg b k - Wd.bw a b k : Nat) : Int) by omega, andLow _ (by omega)]
  · rw [show ((Wd.dg a k : Int) + 4294967296 - (Wd.dg b k : Int) - (Wd.bw a b k : Int)) = ((Wd.dg a k + 4294967296 - Wd.dg b k - Wd.bw a b k : Nat) : Int) by omega, castDiv]
  · rw [← e2]; omega

set_option maxRecDepth 100000 in
set_option maxHeartbeats 1000000 in
theorem rless_any (ba bb va vb : Nat) (w : World) (ha : Row w ba va) (hb : Row w bb vb) (hle : vb ≤ va) :
    Calls Try.prog 57 #[.slice (some ⟨ba, 0, none⟩) 6 6, .slice (some ⟨bb, 0, none⟩) 6 6] w fun e w' => e = .returned (.slice (some ⟨w.heap.size, 0, none⟩) 6 6) ∧ Part w w' w.heap.size (fun j => Wd.dg (va - vb) j) := by
  have hmk := make_six
  have la := ha.2.1
  have lb := hb.2.1
  go_enter Try.func57, Try.ntmps57
  go_wp2_with fail
  clear hmk
  go_loopw [6, 7] (fun c i wr => ∃ k : Nat, k ≤ 6 ∧ i = .int .i64 k ∧ c = .int .u64 ((Wd.bw va vb k : Nat) : Int) ∧ Part w wr w.heap.size (fun j => if j < k then Wd.dg (va - vb) j else 0)) (fun _ i _ => 6 - (intOf i).toNat)
  case atStart => exact ⟨0, by omega, rfl, by rw [Wd.bw_zero]; rfl, (zeros w _).congr (fun j _ => by simp)⟩
  case round =>
    obtain ⟨k, hk, rfl, rfl, hP⟩ := hrel
    by_cases hlt : k < 6
    · have ca : wr.cell? ⟨ba, k, none⟩ = some (.int .u64 ((Wd.dg va k : Nat) : Int)) := (hP.below.cell (p := ⟨ba, k, none⟩) la).trans (ha.2.2 k hlt)
      have cb : wr.cell? ⟨bb, k, none⟩ = some (.int .u64 ((Wd.dg vb k : Nat) : Int)) := (hP.below.cell (p := ⟨bb, k, none⟩) lb).trans (hb.2.2 k hlt)
      have cN := hP.cell k hlt
      have fN := hP.free k hlt
      obtain ⟨q, e1, e2, e3⟩ := less_cells va vb k hle
      have l0 := Wd.bw_01 va vb k
      have l1 := Wd.dg_lt va k
      have l2 := Wd.dg_lt vb k
      have l3 := Wd.bw_01 va vb (k + 1)
      have hS := Part.set (x := Wd.dg (va - vb) k) hP.drew hlt
      have HS : Hid (Part w (wr.drew.setCell ⟨w.heap.size, k, none⟩ (.int .u64 ((Wd.dg (va - vb) k : Nat) : Int))) w.heap.size (fun j => if j < k + 1 then Wd.dg (va - vb) j else 0)) := hS.congr (fun j _ => by
        by_cases g : j = k
        · subst g; simp
        · by_cases g2 : j < k
          · simp [g, g2, Nat.lt_succ_of_lt g2]
          · simp [g, g2, show ¬ j < k + 1 by omega])
      generalize Wd.bw va vb k = C at *
      generalize hC' : Wd.bw va vb (k + 1) = C' at *
      have HC' : Hid (Wd.bw va vb (k + 1) = C') := hC'
      generalize Wd.dg va k = x at *
      generalize Wd.dg vb k = y at *
      generalize Wd.dg (va - vb) k = z at *
      have lq : q ≤ 1 := by omega
      clear hS hP hC'
      go_wp2
      go_region
      all_goals (try go_wp2)
      exact ⟨⟨k + 1, by omega, by go_num, by rw [HC'.out], HS.out⟩, by simp [intOf]; omega⟩
    · have HP : Hid (Part w wr w.heap.size (fun j => Wd.dg (va - vb) j)) := hP.congr (fun j hj => by simp [show j < k by omega])
      clear hP
      go_wp2
      go_ret
      exact ⟨rfl, HP.out⟩

/-- below, the same, above: -1, 0, 1. -/
def wcmpV (a b : Nat) : Int := if a < b then -1 else if b < a then 1 else 0
theorem cmpV_lt {a b : Nat} (h : a < b) : wcmpV a b = -1 := if_pos h
theorem cmpV_gt {a b : Nat} (h : b < a) : wcmpV a b = 1 := by unfold wcmpV; rw [if_neg (by omega), if_pos h]
theorem cmpV_eq {a b : Nat} (h : a = b) : wcmpV a b = 0 := by unfold wcmpV; rw [if_neg (by omega), if_neg (by omega)]

set_option maxRecDepth 100000 in
set_option maxHeartbeats 1000000 in
theorem rcmp_any (ba bb va vb : Nat) (w : World) (ha : Row w ba va) (hb : Row w bb vb) :
    Calls Try.prog 56 #[.slice (some ⟨ba, 0, none⟩) 6 6, .slice (some ⟨bb, 0, none⟩) 6 6] w fun e w' => e = .returned (.int .i64 (wcmpV va vb)) ∧ Below w.heap.size w w' := by
  have la := ha.2.1
  have lb := hb.2.1
  go_enter Try.func56, Try.ntmps56
  go_wp2_with fail
  go_loopw [5] (fun i wr => ∃ j : Int, -1 ≤ j ∧ j ≤ 5 ∧ i = .int .i64 j ∧ Below w.heap.size w wr ∧ va / 4294967296 ^ (j + 1).toNat = vb / 4294967296 ^ (j + 1).toNat) (fun i _ => (intOf i + 1).toNat)
  case atStart => exact ⟨5, by omega, by omega, rfl, Below.refl _ _, by rw [show ((5 : Int) + 1).toNat = 6 from rfl, Wd.top_six ha.1, Wd.top_six hb.1]⟩
  case round =>
    obtain ⟨j, j1, j2, rfl, hB, hT⟩ := hrel
    by_cases hge : 0 ≤ j
    · have ca : wr.cell? ⟨ba, j.toNat, none⟩ = some (.int .u64 ((Wd.dg va j.toNat : Nat) : Int)) := (hB.cell (p := ⟨ba, j.toNat, none⟩) la).trans (ha.2.2 j.toNat (by omega))
      have cb : wr.cell? ⟨bb, j.toNat, none⟩ = some (.int .u64 ((Wd.dg vb j.toNat : Nat) : Int)) := (hB.cell (p := ⟨bb, j.toNat, none⟩) lb).trans (hb.2.2 j.toNat (by omega))
      rw [show (j + 1).toNat = j.toNat + 1 by omega] at hT
      by_cases c1 : Wd.dg va j.toNat < Wd.dg vb j.toNat
      · have HV : Hid (wcmpV va vb = -1) := cmpV_lt (Wd.top_lt hT c1)
        have c1' : ((Wd.dg va j.toNat : Nat) : Int) < ((Wd.dg vb j.toNat : Nat) : Int) := by omega
        clear hT c1
        generalize Wd.dg va j.toNat = x at *
        generalize Wd.dg vb j.toNat = y at *
        go_wp2
        go_region
        all_goals (try go_wp2)
        go_ret
        exact ⟨ret_int HV.out.symm, hB.drew⟩
      · by_cases c2 : Wd.dg vb j.toNat < Wd.dg va j.toNat
        · have HV : Hid (wcmpV va vb = 1) := cmpV_gt (Wd.top_lt hT.symm c2)
          have c1' : ¬ ((Wd.dg va j.toNat : Nat) : Int) < ((Wd.dg vb j.toNat : Nat) : Int) := by omega
          have c2' : ((Wd.dg vb j.toNat : Nat) : Int) < ((Wd.dg va j.toNat : Nat) : Int) := by omega
          clear hT c1 c2
          generalize Wd.dg va j.toNat = x at *
          generalize Wd.dg vb j.toNat = y at *
          go_wp2
          go_region
          all_goals (try go_wp2)
          go_region
          all_goals (try go_wp2)
          go_ret
          exact ⟨ret_int HV.out.symm, hB.drew.drew⟩
        · have HT : Hid (va / 4294967296 ^ j.toNat = vb / 4294967296 ^ j.toNat) := Wd.top_eq hT (by omega)
          have c1' : ¬ ((Wd.dg va j.toNat : Nat) : Int) < ((Wd.dg vb j.toNat : Nat) : Int) := by omega
          have c2' : ¬ ((Wd.dg vb j.toNat : Nat) : Int) < ((Wd.dg va j.toNat : Nat) : Int) := by omega
          clear hT c1 c2
          generalize Wd.dg va j.toNat = x at *
          generalize Wd.dg vb j.toNat = y at *
          go_wp2
          go_region
          all_goals (try go_wp2)
          go_region
          all_goals (try go_wp2)
          exact ⟨⟨j - 1, by omega, by omega, rfl, hB.drew.drew, by rw [show (j - 1 + 1).toNat = j.toNat by omega]; exact HT.out⟩, by simp [intOf]; omega⟩
    · have HV : Hid (wcmpV va vb = 0) := by
        rw [show (j + 1).toNat = 0 by omega, Wd.top_zero, Wd.top_zero] at hT
        exact cmpV_eq hT
      clear hT
      go_wp2
      go_ret
      exact ⟨ret_int HV.out.symm, hB⟩

theorem Part.row {w wr : World} {N v : Nat} (h : Part w wr N (fun j => Wd.dg v j)) (hv : v < 4294967296 ^ 6) : Row wr N v := ⟨hv, h.size, h.cell⟩

set_option maxRecDepth 100000 in
set_option maxHeartbeats 400000 in
theorem rzero_any (ba va : Nat) (w : World) (ha : Row w ba va) :
    Calls Try.prog 58 #[.slice (some ⟨ba, 0, none⟩) 6 6] w fun e w' => e = .returned (.bool (decide (va = 0))) ∧ Below w.heap.size w w' := by
  have hmk := make_six
  have hz := (zeros w 65)
  have hr : Row _ w.heap.size 0 := (hz.congr (g := fun j => Wd.dg 0 j) (fun j _ => (Wd.dg_zero j).symm)).row (Wd.pw_pos 6)
  have C1 := rcmp_any ba w.heap.size va 0 _ (ha.below hz.below ha.2.1) hr
  have HB : Hid (Below w.heap.size w (w.alloc (.cells #[.int .u64 0, .int .u64 0, .int .u64 0, .int .u64 0, .int .u64 0, .int .u64 0] 65))) := hz.below
  have HC := C1
  clear hz hr
  by_cases h : va = 0
  · rw [cmpV_eq h] at C1
    have H1 : Hid (Calls Try.prog 56 #[.slice (some ⟨ba, 0, none⟩) 6 6, .slice (some ⟨w.heap.size, 0, none⟩) 6 6] (w.alloc (.cells #[.int .u64 0, .int .u64 0, .int .u64 0, .int .u64 0, .int .u64 0, .int .u64 0] 65)) fun e w' => e = .returned (.int .i64 0) ∧ Below (w.heap.size + 1) (w.alloc (.cells #[.int .u64 0, .int .u64 0, .int .u64 0, .int .u64 0, .int .u64 0, .int .u64 0] 65)) w') := by have c := C1; simp at c; exact c
    clear C1 HC
    go_enter Try.func58, Try.ntmps58
    go_wp2_with fail
    refine (H1.out).mono ?_
    rintro e w1 ⟨rfl, hb⟩
    go_wp2
    go_ret
    exact ⟨wret_bool (by simp [h]), HB.out.trans (hb.mono (by omega))⟩
  · rw [cmpV_gt (by omega)] at C1
    have H1 : Hid (Calls Try.prog 56 #[.slice (some ⟨ba, 0, none⟩) 6 6, .slice (some ⟨w.heap.size, 0, none⟩) 6 6] (w.alloc (.cells #[.int .u64 0, .int .u64 0, .int .u64 0, .int .u64 0, .int .u64 0, .int .u64 0] 65)) fun e w' => e = .returned (.int .i64 1) ∧ Below (w.heap.size + 1) (w.alloc (.cells #[.int .u64 0, .int .u64 0, .int .u64 0, .int .u64 0, .int .u64 0, .int .u64 0] 65)) w') := by have c := C1; simp at c; exact c
    clear C1 HC
    go_enter Try.func58, Try.ntmps58
    go_wp2_with fail
    refine (H1.out).mono ?_
    rintro e w1 ⟨rfl, hb⟩
    go_wp2
    go_ret
    exact ⟨wret_bool (by simp [h]), HB.out.trans (hb.mono (by omega))⟩

end Go.Proofs.Ytghfgabajdghiab
