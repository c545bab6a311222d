/- Contracts: when.TextAt and the reference's. -/
import Derived.Test.YtgnfkkcagbbhmaaGreatDoorWhnMq
import Derived.Test.YtgnfkkcagbbhmaaGreatDoorWhnHq
import Derived.Laws.Runes
import Derived.Laws.IdiomStrings
namespace Go.Proofs.YtgnfkkcagbbhmaaGreatDoor
open Go.RowKit
set_option linter.unusedVariables false

/-- can it be a time? -/
def okAt (s k : Int) : Prop := 0 ≤ s ∧ s ≤ 86400 ∧ (k = 119 ∨ k = 115 ∨ k = 117)
instance (s k : Int) : Decidable (okAt s k) := by unfold okAt; infer_instance
/-- a block that holds a time, as the call made it. -/
def AtS (w : World) (b : Nat) (s k : Int) (W : World) : Prop :=
  b < W.heap.size ∧ W.cell? ⟨b, 0, none⟩ = some (.int .i64 s) ∧ W.cell? ⟨b, 1, none⟩ = some (.int .u8 k) ∧ Below w.heap.size w W
theorem AtS.below {w W W1 : World} {b : Nat} {s k : Int} (h : AtS w b s k W) (hb : Below W.heap.size W W1) : AtS w b s k W1 :=
  ⟨Nat.lt_of_lt_of_le h.1 hb.size, (hb.cell (p := ⟨b, 0, none⟩) h.1).trans h.2.1, (hb.cell (p := ⟨b, 1, none⟩) h.1).trans h.2.2.1, h.2.2.2.trans (hb.mono h.2.2.2.size)⟩
theorem AtS.drew {w W : World} {b : Nat} {s k : Int} (h : AtS w b s k W) : AtS w b s k W.drew := ⟨h.1, h.2.1, h.2.2.1, h.2.2.2.drew⟩
theorem AtS.new (w : World) (s k : Int) (t : TypeId) : AtS w w.heap.size s k (w.alloc (.cells #[.int .i64 s, .int .u8 k] t)) :=
  ⟨by simp, by rw [World.cell?_alloc_at _ _ _ _ rfl]; rfl, by rw [World.cell?_alloc_at _ _ _ _ rfl]; rfl, (Below.refl _ _).alloc (Nat.le_refl _) _⟩

set_option maxRecDepth 100000 in
set_option maxHeartbeats 8000000 in
theorem rightAt_yes (s k : Int) (h : okAt s k) (w : World) :
    Calls Tryz.prog 66 #[.agg #[.int .i64 s, .int .u8 k]] w fun e w' => e = .returned (.bool true) ∧ Below w.heap.size w w' := by
  have HO : Hid (okAt s k) := h
  clear h
  by_cases a : 0 ≤ s
  · by_cases b : s ≤ 86400
    · by_cases k0 : k = 119
      · subst k0
        go_enter Tryz.func66, Tryz.ntmps66
        go_wp2
        all_goals first
          | (go_ret; exact ⟨rfl, (by repeat' (first | assumption | exact Below.refl _ _ | exact Nat.le_refl _ | refine Below.alloc ?_ ?_ _ | (simp; done) | (simp; omega) | omega))⟩)
          | (exfalso; have := HO.out; unfold okAt at this; omega)
      · have e0 : (k == 119) = false := beq_eq_false_iff_ne.2 k0
        by_cases k1 : k = 115
        · subst k1
          go_enter Tryz.func66, Tryz.ntmps66
          go_wp2
          all_goals first
            | (go_ret; exact ⟨rfl, (by repeat' (first | assumption | exact Below.refl _ _ | exact Nat.le_refl _ | refine Below.alloc ?_ ?_ _ | (simp; done) | (simp; omega) | omega))⟩)
            | (exfalso; have := HO.out; unfold okAt at this; omega)
        · have e1 : (k == 115) = false := beq_eq_false_iff_ne.2 k1
          by_cases k2 : k = 117
          · subst k2
            go_enter Tryz.func66, Tryz.ntmps66
            go_wp2
            all_goals first
              | (go_ret; exact ⟨rfl, (by repeat' (first | assumption | exact Below.refl _ _ | exact Nat.le_refl _ | refine Below.alloc ?_ ?_ _ | (simp; done) | (simp; omega) | omega))⟩)
              | (exfalso; have := HO.out; unfold okAt at this; omega)
          · have e2 : (k == 117) = false := beq_eq_false_iff_ne.2 k2
            go_enter Tryz.func66, Tryz.ntmps66
            go_wp2
            all_goals first
              | (go_ret; exact ⟨rfl, (by repeat' (first | assumption | exact Below.refl _ _ | exact Nat.le_refl _ | refine Below.alloc ?_ ?_ _ | (simp; done) | (simp; omega) | omega))⟩)
              | (exfalso; have := HO.out; unfold okAt at this; omega)
    · go_enter Tryz.func66, Tryz.ntmps66
      go_wp2
      all_goals first
        | (go_ret; exact ⟨rfl, (by repeat' (first | assumption | exact Below.refl _ _ | exact Nat.le_refl _ | refine Below.alloc ?_ ?_ _ | (simp; done) | (simp; omega) | omega))⟩)
        | (exfalso; have := HO.out; unfold okAt at this; omega)
  · go_enter Tryz.func66, Tryz.ntmps66
    go_wp2
    all_goals first
      | (go_ret; exact ⟨rfl, (by repeat' (first | assumption | exact Below.refl _ _ | exact Nat.le_refl _ | refine Below.alloc ?_ ?_ _ | (simp; done) | (simp; omega) | omega))⟩)
      | (exfalso; have := HO.out; unfold okAt at this; omega)

set_option maxRecDepth 100000 in
set_option maxHeartbeats 8000000 in
theorem rightAt_no (s k : Int) (h : ¬ okAt s k) (w : World) :
    Calls Tryz.prog 66 #[.agg #[.int .i64 s, .int .u8 k]] w fun e w' => e = .returned (.bool false) ∧ Below w.heap.size w w' := by
  have HO : Hid (¬ okAt s k) := h
  clear h
  by_cases a : 0 ≤ s
  · by_cases b : s ≤ 86400
    · by_cases k0 : k = 119
      · subst k0
        go_enter Tryz.func66, Tryz.ntmps66
        go_wp2
        all_goals first
          | (go_ret; exact ⟨rfl, (by repeat' (first | assumption | exact Below.refl _ _ | exact Nat.le_refl _ | refine Below.alloc ?_ ?_ _ | (simp; done) | (simp; omega) | omega))⟩)
          | (exfalso; have := HO.out; unfold okAt at this; omega)
      · have e0 : (k == 119) = false := beq_eq_false_iff_ne.2 k0
        by_cases k1 : k = 115
        · subst k1
          go_enter Tryz.func66, Tryz.ntmps66
          go_wp2
          all_goals first
            | (go_ret; exact ⟨rfl, (by repeat' (first | assumption | exact Below.refl _ _ | exact Nat.le_refl _ | refine Below.alloc ?_ ?_ _ | (simp; done) | (simp; omega) | omega))⟩)
            | (exfalso; have := HO.out; unfold okAt at this; omega)
        · have e1 : (k == 115) = false := beq_eq_false_iff_ne.2 k1
          by_cases k2 : k = 117
          · subst k2
            go_enter Tryz.func66, Tryz.ntmps66
            go_wp2
            all_goals first
              | (go_ret; exact ⟨rfl, (by repeat' (first | assumption | exact Below.refl _ _ | exact Nat.le_refl _ | refine Below.alloc ?_ ?_ _ | (simp; done) | (simp; omega) | omega))⟩)
              | (exfalso; have := HO.out; unfold okAt at this; omega)
          · have e2 : (k == 117) = false := beq_eq_false_iff_ne.2 k2
            go_enter Tryz.func66, Tryz.ntmps66
            go_wp2
            all_goals first
              | (go_ret; exact ⟨rfl, (by repeat' (first | assumption | exact Below.refl _ _ | exact Nat.le_refl _ | refine Below.alloc ?_ ?_ _ | (simp; done) | (simp; omega) | omega))⟩)
              | (exfalso; have := HO.out; unfold okAt at this; omega)
    · go_enter Tryz.func66, Tryz.ntmps66
      go_wp2
      all_goals first
        | (go_ret; exact ⟨rfl, (by repeat' (first | assumption | exact Below.refl _ _ | exact Nat.le_refl _ | refine Below.alloc ?_ ?_ _ | (simp; done) | (simp; omega) | omega))⟩)
        | (exfalso; have := HO.out; unfold okAt at this; omega)
  · go_enter Tryz.func66, Tryz.ntmps66
    go_wp2
    all_goals first
      | (go_ret; exact ⟨rfl, (by repeat' (first | assumption | exact Below.refl _ _ | exact Nat.le_refl _ | refine Below.alloc ?_ ?_ _ | (simp; done) | (simp; omega) | omega))⟩)
      | (exfalso; have := HO.out; unfold okAt at this; omega)

end Go.Proofs.YtgnfkkcagbbhmaaGreatDoor
