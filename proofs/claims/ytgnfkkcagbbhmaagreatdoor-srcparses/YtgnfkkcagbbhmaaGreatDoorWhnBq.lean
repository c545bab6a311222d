/- Contracts: when.Day and the reference's Day, whole. -/
import Derived.Test.YtgnfkkcagbbhmaaGreatDoorWhnAq
import Derived.Deep.QuietTactic
import Derived.BigQuiet
import Derived.Deep.LoopGhost
namespace Go.Proofs.YtgnfkkcagbbhmaaGreatDoor
open Go.RowKit
set_option linter.unusedVariables false

set_option maxRecDepth 100000 in
set_option maxHeartbeats 8000000 in
theorem rightOn_yes (k d n : Int) (h : okOn k d n) (w : World) :
    Calls Tryz.prog 65 #[onV k d n] w fun e w' => e = .returned (.bool true) ∧ Below w.heap.size w w' := by
  have HO : Hid (okOn k d n) := h
  unfold onV
  rcases h with ⟨rfl, h1, h2, rfl⟩ | ⟨rfl, h1, h2, rfl⟩ | ⟨rfl | rfl, h1, h2, h3, h4⟩
  · go_enter Tryz.func65, Tryz.ntmps65
    go_wp2
    all_goals first
      | (go_ret; exact ⟨rfl, (by repeat' (first | assumption | exact Below.refl _ _ | exact Nat.le_refl _ | refine Below.alloc ?_ ?_ _ | (simp; done) | (simp; omega) | omega))⟩)
      | (exfalso; have := HO.out; unfold okOn at this; omega)
      | (exfalso; omega)
  · go_enter Tryz.func65, Tryz.ntmps65
    go_wp2
    all_goals first
      | (go_ret; exact ⟨rfl, (by repeat' (first | assumption | exact Below.refl _ _ | exact Nat.le_refl _ | refine Below.alloc ?_ ?_ _ | (simp; done) | (simp; omega) | omega))⟩)
      | (exfalso; have := HO.out; unfold okOn at this; omega)
      | (exfalso; omega)
  · go_enter Tryz.func65, Tryz.ntmps65
    go_wp2
    all_goals first
      | (go_ret; exact ⟨rfl, (by repeat' (first | assumption | exact Below.refl _ _ | exact Nat.le_refl _ | refine Below.alloc ?_ ?_ _ | (simp; done) | (simp; omega) | omega))⟩)
      | (exfalso; have := HO.out; unfold okOn at this; omega)
      | (exfalso; omega)
  · go_enter Tryz.func65, Tryz.ntmps65
    go_wp2
    all_goals first
      | (go_ret; exact ⟨rfl, (by repeat' (first | assumption | exact Below.refl _ _ | exact Nat.le_refl _ | refine Below.alloc ?_ ?_ _ | (simp; done) | (simp; omega) | omega))⟩)
      | (exfalso; have := HO.out; unfold okOn at this; omega)
      | (exfalso; omega)

set_option maxRecDepth 100000 in
set_option maxHeartbeats 8000000 in
theorem rightOn_no (k d n : Int) (h : ¬ okOn k d n) (w : World) :
    Calls Tryz.prog 65 #[onV k d n] w fun e w' => e = .returned (.bool false) ∧ Below w.heap.size w w' := by
  have HO : Hid (¬ okOn k d n) := h
  clear h
  unfold onV
  by_cases k0 : k = 0
  · subst k0
    by_cases d0 : d = 0
    · subst d0
      go_enter Tryz.func65, Tryz.ntmps65
      go_wp2
      all_goals first
        | (go_ret; exact ⟨rfl, (by repeat' (first | assumption | exact Below.refl _ _ | exact Nat.le_refl _ | refine Below.alloc ?_ ?_ _ | (simp; done) | (simp; omega) | omega))⟩)
        | (exfalso; have := HO.out; unfold okOn at this; omega)
        | (exfalso; omega)
    · have d1 : (d == 0) = false := beq_eq_false_iff_ne.2 d0
      go_enter Tryz.func65, Tryz.ntmps65
      go_wp2
      all_goals first
        | (go_ret; exact ⟨rfl, (by repeat' (first | assumption | exact Below.refl _ _ | exact Nat.le_refl _ | refine Below.alloc ?_ ?_ _ | (simp; done) | (simp; omega) | omega))⟩)
        | (exfalso; have := HO.out; unfold okOn at this; omega)
        | (exfalso; omega)
  have e0 : (k == 0) = false := beq_eq_false_iff_ne.2 k0
  by_cases k1 : k = 1
  · subst k1
    by_cases d0 : n = 0
    · subst d0
      go_enter Tryz.func65, Tryz.ntmps65
      go_wp2
      all_goals first
        | (go_ret; exact ⟨rfl, (by repeat' (first | assumption | exact Below.refl _ _ | exact Nat.le_refl _ | refine Below.alloc ?_ ?_ _ | (simp; done) | (simp; omega) | omega))⟩)
        | (exfalso; have := HO.out; unfold okOn at this; omega)
        | (exfalso; omega)
    · have d1 : (n == 0) = false := beq_eq_false_iff_ne.2 d0
      go_enter Tryz.func65, Tryz.ntmps65
      go_wp2
      all_goals first
        | (go_ret; exact ⟨rfl, (by repeat' (first | assumption | exact Below.refl _ _ | exact Nat.le_refl _ | refine Below.alloc ?_ ?_ _ | (simp; done) | (simp; omega) | omega))⟩)
        | (exfalso; have := HO.out; unfold okOn at this; omega)
        | (exfalso; omega)
  have e1 : (k == 1) = false := beq_eq_false_iff_ne.2 k1
  by_cases k2 : k = 2
  · subst k2
    by_cases c : n ≤ 31
    · go_enter Tryz.func65, Tryz.ntmps65
      go_wp2
      all_goals first
        | (go_ret; exact ⟨rfl, (by repeat' (first | assumption | exact Below.refl _ _ | exact Nat.le_refl _ | refine Below.alloc ?_ ?_ _ | (simp; done) | (simp; omega) | omega))⟩)
        | (exfalso; have := HO.out; unfold okOn at this; omega)
        | (exfalso; omega)
    · go_enter Tryz.func65, Tryz.ntmps65
      go_wp2
      all_goals first
        | (go_ret; exact ⟨rfl, (by repeat' (first | assumption | exact Below.refl _ _ | exact Nat.le_refl _ | refine Below.alloc ?_ ?_ _ | (simp; done) | (simp; omega) | omega))⟩)
        | (exfalso; have := HO.out; unfold okOn at this; omega)
        | (exfalso; omega)
  have e2 : (k == 2) = false := beq_eq_false_iff_ne.2 k2
  by_cases k3 : k = 3
  · subst k3
    by_cases c : n ≤ 31
    · go_enter Tryz.func65, Tryz.ntmps65
      go_wp2
      all_goals first
        | (go_ret; exact ⟨rfl, (by repeat' (first | assumption | exact Below.refl _ _ | exact Nat.le_refl _ | refine Below.alloc ?_ ?_ _ | (simp; done) | (simp; omega) | omega))⟩)
        | (exfalso; have := HO.out; unfold okOn at this; omega)
        | (exfalso; omega)
    · go_enter Tryz.func65, Tryz.ntmps65
      go_wp2
      all_goals first
        | (go_ret; exact ⟨rfl, (by repeat' (first | assumption | exact Below.refl _ _ | exact Nat.le_refl _ | refine Below.alloc ?_ ?_ _ | (simp; done) | (simp; omega) | omega))⟩)
        | (exfalso; have := HO.out; unfold okOn at this; omega)
        | (exfalso; omega)
  have e3 : (k == 3) = false := beq_eq_false_iff_ne.2 k3
  go_enter Tryz.func65, Tryz.ntmps65
  go_wp2
  all_goals first
    | (go_ret; exact ⟨rfl, (by repeat' (first | assumption | exact Below.refl _ _ | exact Nat.le_refl _ | refine Below.alloc ?_ ?_ _ | (simp; done) | (simp; omega) | omega))⟩)
    | (exfalso; have := HO.out; unfold okOn at this; omega)
    | (exfalso; omega)

end Go.Proofs.YtgnfkkcagbbhmaaGreatDoor
