/- Contracts, more: the reference's Plus, Minus, Of, Small over numbers of 192 bits with a sign. -/
import Derived.Test.YtghfgabajdghiabWideA
import Derived.Deep.RegionWith
import Derived.Deep.DeepMust
import Derived.Deep.RegionHeld3
namespace Go.Proofs.Ytghfgabajdghiab
open Go.RowKit
set_option linter.unusedVariables false

theorem Row.alloc {w : World} {b v : Nat} (h : Row w b v) (o : Obj) : Row (w.alloc o) b v :=
  h.below ((Below.refl w.heap.size w).alloc (Nat.le_refl _) o) h.2.1

theorem bcell {W w1 : World} (hb : Below W.heap.size W w1) : (∀ b o, b < W.heap.size → w1.cell? ⟨b, o, none⟩ = W.cell? ⟨b, o, none⟩) ∧ (∀ b o, b < W.heap.size → w1.frozen? ⟨b, o, none⟩ = W.frozen? ⟨b, o, none⟩) :=
  ⟨fun b o h => hb.cell (p := ⟨b, o, none⟩) h, fun b o h => hb.frozen (p := ⟨b, o, none⟩) h⟩

theorem size3 {w : World} (o1 o2 o3 : Obj) : (((w.alloc o1).alloc o2).alloc o3).heap.size = w.heap.size + 1 + 1 + 1 := by simp
theorem after3 {w w1 : World} {o1 o2 o3 : Obj} (h : Below (w.heap.size + 1 + 1 + 1) (((w.alloc o1).alloc o2).alloc o3) w1) :
    (∀ b o, b < w.heap.size + 1 + 1 + 1 → w1.cell? ⟨b, o, none⟩ = (((w.alloc o1).alloc o2).alloc o3).cell? ⟨b, o, none⟩) ∧ (∀ b o, b < w.heap.size + 1 + 1 + 1 → w1.frozen? ⟨b, o, none⟩ = (((w.alloc o1).alloc o2).alloc o3).frozen? ⟨b, o, none⟩) :=
  ⟨fun b o hb => h.cell (p := ⟨b, o, none⟩) hb, fun b o hb => h.frozen (p := ⟨b, o, none⟩) hb⟩

/-- a box of a number with a sign, as a cell's block. -/
abbrev box (n : Bool) (b : Nat) : Obj := .cells #[.bool n, .slice (some ⟨b, 0, none⟩) 6 6] 52
abbrev nobox : Obj := .cells #[.bool false, .slice none 0 0] 52

theorem three {w : World} (o1 o2 o3 : Obj) : Below w.heap.size w (((w.alloc o1).alloc o2).alloc o3) :=
  (((Below.refl _ _).alloc (Nat.le_refl _) _).alloc (by simp) _).alloc (by simp; omega) _

theorem Row.setCell {w : World} {b v : Nat} (h : Row w b v) {a : Addr} (ha : a.block ≠ b) (x : Value) : Row (w.setCell a x) b v :=
  ⟨h.1, by simpa [World.setCell] using h.2.1, fun i hi => (World.cell?_setCell_other _ _ _ _ (fun e => ha (by rw [e]))).trans (h.2.2 i hi)⟩

theorem wkeep2 {w1 : World} {N M : Nat} (h : M ≠ N) (x y : Value) (o : Nat) : ((w1.setCell ⟨M, 0, none⟩ x).setCell ⟨M, 1, none⟩ y).cell? ⟨N, o, none⟩ = w1.cell? ⟨N, o, none⟩ :=
  (World.cell?_setCell_other _ _ _ _ (fun e => h (by cases e; rfl))).trans (World.cell?_setCell_other _ _ _ _ (fun e => h (by cases e; rfl)))

/-- the three boxes, in a world that keeps them. -/
theorem boxes {w w1 : World} {n m : Bool} {ba bb : Nat} (h : Below (w.heap.size + 1 + 1 + 1) (((w.alloc (box n ba)).alloc (box m bb)).alloc nobox) w1) :
    w1.cell? ⟨w.heap.size, 0, none⟩ = some (.bool n) ∧ w1.cell? ⟨w.heap.size, 1, none⟩ = some (.slice (some ⟨ba, 0, none⟩) 6 6) ∧ w1.cell? ⟨w.heap.size + 1, 0, none⟩ = some (.bool m) ∧ w1.cell? ⟨w.heap.size + 1, 1, none⟩ = some (.slice (some ⟨bb, 0, none⟩) 6 6) ∧
    w1.cell? ⟨w.heap.size + 1 + 1, 0, none⟩ = some (.bool false) ∧ w1.cell? ⟨w.heap.size + 1 + 1, 1, none⟩ = some (.slice none 0 0) ∧ w1.frozen? ⟨w.heap.size + 1 + 1, 0, none⟩ = false ∧ w1.frozen? ⟨w.heap.size + 1 + 1, 1, none⟩ = false := by
  obtain ⟨hc, hf⟩ := after3 h
  refine ⟨?_, ?_, ?_, ?_, ?_, ?_, ?_, ?_⟩
  · rw [hc _ _ (by omega), World.cell?_alloc_past _ _ _ (by simp; omega), World.cell?_alloc_past _ _ _ (by simp), World.cell?_alloc_at _ _ _ _ rfl]; rfl
  · rw [hc _ _ (by omega), World.cell?_alloc_past _ _ _ (by simp; omega), World.cell?_alloc_past _ _ _ (by simp), World.cell?_alloc_at _ _ _ _ rfl]; rfl
  · rw [hc _ _ (by omega), World.cell?_alloc_past _ _ _ (by simp), World.cell?_alloc_at _ _ _ _ (by simp)]; rfl
  · rw [hc _ _ (by omega), World.cell?_alloc_past _ _ _ (by simp), World.cell?_alloc_at _ _ _ _ (by simp)]; rfl
  · rw [hc _ _ (by omega), World.cell?_alloc_at _ _ _ _ (by simp)]; rfl
  · rw [hc _ _ (by omega), World.cell?_alloc_at _ _ _ _ (by simp)]; rfl
  · rw [hf _ _ (by omega), World.frozen?_alloc_at _ _ _ _ (by simp)]
  · rw [hf _ _ (by omega), World.frozen?_alloc_at _ _ _ _ (by simp)]

set_option maxRecDepth 100000 in
set_option maxHeartbeats 1000000 in
theorem plus_same (n : Bool) (ba bb va vb : Nat) (w : World) (ha : Row w ba va) (hb : Row w bb vb) (hv : va + vb < 4294967296 ^ 6) :
    Calls Try.prog 42 #[.agg #[.bool n, .slice (some ⟨ba, 0, none⟩) 6 6], .agg #[.bool n, .slice (some ⟨bb, 0, none⟩) 6 6]] w fun e w' => ∃ b, e = .returned (.agg #[.bool n, .slice (some ⟨b, 0, none⟩) 6 6]) ∧ Below w.heap.size w w' ∧ w.heap.size ≤ b ∧ Row w' b (va + vb) := by
  have C1 := radd_any ba bb va vb (((w.alloc (box n ba)).alloc (box n bb)).alloc nobox).drew (((ha.alloc _).alloc _).alloc _) (((hb.alloc _).alloc _).alloc _)
  rw [show (((w.alloc (box n ba)).alloc (box n bb)).alloc nobox).drew.heap.size = w.heap.size + 1 + 1 + 1 from size3 _ _ _] at C1
  have HC : Hid (Calls Try.prog 55 #[.slice (some ⟨ba, 0, none⟩) 6 6, .slice (some ⟨bb, 0, none⟩) 6 6] (((w.alloc (box n ba)).alloc (box n bb)).alloc nobox).drew fun e w' => e = .returned (.slice (some ⟨w.heap.size + 1 + 1 + 1, 0, none⟩) 6 6) ∧ Part (((w.alloc (box n ba)).alloc (box n bb)).alloc nobox).drew w' (w.heap.size + 1 + 1 + 1) (fun j => Wd.dg (va + vb) j)) := C1
  clear C1
  go_enter Try.func42, Try.ntmps42
  go_wp2_with fail
  go_region_held3 (fun w' => w'.cell? ⟨w.heap.size, 0, none⟩ = some (.bool n) ∧ w'.cell? ⟨w.heap.size, 1, none⟩ = some (.slice (some ⟨ba, 0, none⟩) 6 6) ∧ w'.cell? ⟨w.heap.size + 1, 1, none⟩ = some (.slice (some ⟨bb, 0, none⟩) 6 6)) (((try dsimp only); (repeat' apply And.intro); (all_goals (first | assumption | (refine (wkeep2 ?_ _ _ _).trans ?_; omega; assumption) | go_keep)))) (first | (go_at_call 55; refine HC.out.mono ?_; rintro e w1 ⟨rfl, hP⟩; obtain ⟨c1, c2, c3, c4, c5, c6, f5, f6⟩ := boxes (Below.trans (Below.drew (Below.refl _ _)) hP.below); have hz := hP.size; have HP : Hid _ := hP; clear hP))
  all_goals
    go_wp2
    refine bodyPost_ret (v := .agg #[.bool n, .slice (some ⟨w.heap.size + 1 + 1 + 1, 0, none⟩) 6 6]) (by simp [results, Try.results42, go_sem, c5, c6]) rfl ⟨_, rfl, ?_⟩
    have hP := HP.out
    refine ⟨((((three _ _ _).drew).trans (hP.below.mono (by omega))).setCell (Nat.le_trans (Nat.le_add_right _ 2) (Nat.le_refl _)) _).setCell (Nat.le_trans (Nat.le_add_right _ 2) (Nat.le_refl _)) _, by omega, ?_⟩
    exact ((hP.row hv).setCell (Nat.ne_of_lt (Nat.lt_succ_self _)) _).setCell (Nat.ne_of_lt (Nat.lt_succ_self _)) _

set_option maxRecDepth 100000 in
set_option maxHeartbeats 1000000 in
theorem plus_lt (n m : Bool) (hnm : (n == m) = false) (ba bb va vb : Nat) (w : World) (ha : Row w ba va) (hb : Row w bb vb) (hlt : va < vb) :
    Calls Try.prog 42 #[.agg #[.bool n, .slice (some ⟨ba, 0, none⟩) 6 6], .agg #[.bool m, .slice (some ⟨bb, 0, none⟩) 6 6]] w fun e w' => ∃ b, e = .returned (.agg #[.bool m, .slice (some ⟨b, 0, none⟩) 6 6]) ∧ Below w.heap.size w w' ∧ w.heap.size ≤ b ∧ Row w' b (vb - va) := by
  have C1 := rcmp_any ba bb va vb (((w.alloc (box n ba)).alloc (box m bb)).alloc nobox) (((ha.alloc _).alloc _).alloc _) (((hb.alloc _).alloc _).alloc _)
  rw [cmpV_lt hlt, size3] at C1
  have HC : Hid (Calls Try.prog 56 #[.slice (some ⟨ba, 0, none⟩) 6 6, .slice (some ⟨bb, 0, none⟩) 6 6] (((w.alloc (box n ba)).alloc (box m bb)).alloc nobox) fun e w' => e = .returned (.int .i64 (-1)) ∧ Below (w.heap.size + 1 + 1 + 1) (((w.alloc (box n ba)).alloc (box m bb)).alloc nobox) w') := C1
  clear C1
  go_enter Try.func42, Try.ntmps42
  go_wp2_with fail
  refine HC.out.mono ?_
  rintro e w1 ⟨rfl, hB⟩
  have HB : Hid (Below (w.heap.size + 1 + 1 + 1) (((w.alloc (box n ba)).alloc (box m bb)).alloc nobox) w1) := hB
  have HA : Hid (Row w1 ba va) := ((((ha.alloc _).alloc _).alloc _).below hB (by have := ha.2.1; omega))
  have HA2 : Hid (Row w1 bb vb) := ((((hb.alloc _).alloc _).alloc _).below hB (by have := hb.2.1; omega))
  have HZ : Hid (w.heap.size + 1 + 1 + 1 ≤ w1.heap.size) := by have := hB.size; rw [size3] at this; exact this
  obtain ⟨c1, c2, c3, c4, c5, c6, f5, f6⟩ := boxes hB
  clear hB
  go_wp2_with fail
  go_region_held3 (fun w' => w'.cell? ⟨w.heap.size, 0, none⟩ = some (.bool n) ∧ w'.cell? ⟨w.heap.size, 1, none⟩ = some (.slice (some ⟨ba, 0, none⟩) 6 6) ∧ w'.cell? ⟨w.heap.size + 1, 0, none⟩ = some (.bool m) ∧ w'.cell? ⟨w.heap.size + 1, 1, none⟩ = some (.slice (some ⟨bb, 0, none⟩) 6 6)) (((try dsimp only); (repeat' apply And.intro); (all_goals (first | assumption | (refine (wkeep2 ?_ _ _ _).trans ?_; omega; assumption) | go_keep)))) (first | (go_at_call 57; refine (rless_any bb ba vb va _ ?_ ?_ (Nat.le_of_lt hlt)).mono ?_; exact HA2.out; exact HA.out; rintro e w2 ⟨rfl, hP⟩; obtain ⟨c1, c2, c3, c4, c5, c6, f5, f6⟩ := boxes (HB.out.drew.trans (hP.below.mono HZ.out)); have HP : Hid _ := hP; clear hP))
  all_goals
    go_wp2
    refine bodyPost_ret (v := .agg #[.bool m, .slice (some ⟨w1.heap.size, 0, none⟩) 6 6]) (by simp [results, Try.results42, go_sem, c5, c6]) rfl ⟨_, rfl, ?_⟩
    have hP := HP.out
    have hz := HZ.out
    refine ⟨((((three _ _ _).trans (HB.out.drew.mono (by omega))).trans (hP.below.mono (Nat.le_trans (by omega) hz))).setCell (Nat.le_trans (Nat.le_add_right _ 2) (Nat.le_refl _)) _).setCell (Nat.le_trans (Nat.le_add_right _ 2) (Nat.le_refl _)) _, by omega, ?_⟩
    exact ((hP.row (Nat.lt_of_le_of_lt (Nat.sub_le _ _) hb.1)).setCell (show w.heap.size + 1 + 1 ≠ w1.heap.size from by omega) _).setCell (show w.heap.size + 1 + 1 ≠ w1.heap.size from by omega) _

end Go.Proofs.Ytghfgabajdghiab
