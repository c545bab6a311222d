/- Contracts of package when's forms: which way a day is said; whether it can be. -/
import Derived.Test.YtgnfkkcagbbhmaaGreatDoorCivEq
import Derived.Deep.RegionHeld3
import Derived.Deep.RegionWith
import Derived.Deep.DeepMust
namespace Go.Proofs.YtgnfkkcagbbhmaaGreatDoor
open Go.RowKit
set_option linter.unusedVariables false

/-- can it be a day of a month? -/
def okOn (k d n : Int) : Prop := (k = 0 ∧ 1 ≤ n ∧ n ≤ 31 ∧ d = 0) ∨ (k = 1 ∧ 0 ≤ d ∧ d ≤ 6 ∧ n = 0) ∨ ((k = 2 ∨ k = 3) ∧ 0 ≤ d ∧ d ≤ 6 ∧ 1 ≤ n ∧ n ≤ 31)
instance (k d n : Int) : Decidable (okOn k d n) := by unfold okOn; infer_instance
def formV (k d n : Int) : Value :=
  if k = 0 then .iface 221 (.agg #[.int .i64 n]) else if k = 1 then .iface 223 (.agg #[.int .i64 d]) else .iface 225 (.agg #[.int .i64 d, .int .i64 n, .bool (decide (k = 3))])
def onV (k d n : Int) : Value := .agg #[.int .i64 k, .int .i64 d, .int .i64 n]

/-- a block that holds a day of a month, as the call made it. -/
def OnS (w : World) (b : Nat) (k d n : Int) (W : World) : Prop :=
  b < W.heap.size ∧ W.cell? ⟨b, 0, none⟩ = some (.int .i64 k) ∧ W.cell? ⟨b, 1, none⟩ = some (.int .i64 d) ∧ W.cell? ⟨b, 2, none⟩ = some (.int .i64 n) ∧ Below w.heap.size w W
theorem OnS.below {w W W1 : World} {b : Nat} {k d n : Int} (h : OnS w b k d n W) (hb : Below W.heap.size W W1) : OnS w b k d n W1 :=
  ⟨Nat.lt_of_lt_of_le h.1 hb.size, (hb.cell (p := ⟨b, 0, none⟩) h.1).trans h.2.1, (hb.cell (p := ⟨b, 1, none⟩) h.1).trans h.2.2.1, (hb.cell (p := ⟨b, 2, none⟩) h.1).trans h.2.2.2.1, h.2.2.2.2.trans (hb.mono h.2.2.2.2.size)⟩
theorem OnS.drew {w W : World} {b : Nat} {k d n : Int} (h : OnS w b k d n W) : OnS w b k d n W.drew := ⟨h.1, h.2.1, h.2.2.1, h.2.2.2.1, h.2.2.2.2.drew⟩
theorem OnS.drewN {w W : World} {b : Nat} {k d n : Int} (h : OnS w b k d n W) (q : Nat) : OnS w b k d n (W.drewN q) := ⟨h.1, h.2.1, h.2.2.1, h.2.2.2.1, h.2.2.2.2.trans ⟨rfl, rfl, rfl, Nat.le_refl _, fun _ _ => rfl⟩⟩
theorem OnS.new (w : World) (k d n : Int) (t : TypeId) : OnS w w.heap.size k d n (w.alloc (.cells #[.int .i64 k, .int .i64 d, .int .i64 n] t)) :=
  ⟨by simp, by rw [World.cell?_alloc_at _ _ _ _ rfl]; rfl, by rw [World.cell?_alloc_at _ _ _ _ rfl]; rfl, by rw [World.cell?_alloc_at _ _ _ _ rfl]; rfl, (Below.refl _ _).alloc (Nat.le_refl _) _⟩

set_option maxRecDepth 100000 in
set_option maxHeartbeats 4000000 in
theorem canNum_yes (n : Int) (h1 : 1 ≤ n) (h2 : n ≤ 31) (w : World) :
    Calls Tryz.prog 207 #[.agg #[.int .i64 n]] w fun e w' => e = .returned (.bool true) ∧ Below w.heap.size w w' := by
  go_enter Tryz.func207, Tryz.ntmps207
  go_wp2
  go_ret
  exact ⟨rfl, (by repeat' (first | assumption | exact Below.refl _ _ | exact Nat.le_refl _ | refine Below.alloc ?_ ?_ _ | (simp; done) | (simp; omega) | omega))⟩

set_option maxRecDepth 100000 in
set_option maxHeartbeats 4000000 in
theorem canNum_no (n : Int) (h : n < 1 ∨ 31 < n) (w : World) :
    Calls Tryz.prog 207 #[.agg #[.int .i64 n]] w fun e w' => e = .returned (.bool false) ∧ Below w.heap.size w w' := by
  rcases h with h | h
  · have h1 : ¬ 1 ≤ n := by omega
    go_enter Tryz.func207, Tryz.ntmps207
    go_wp2
    go_ret
    exact ⟨rfl, (by repeat' (first | assumption | exact Below.refl _ _ | exact Nat.le_refl _ | refine Below.alloc ?_ ?_ _ | (simp; done) | (simp; omega) | omega))⟩
  · have h1 : 1 ≤ n := by omega
    have h2 : ¬ n ≤ 31 := by omega
    go_enter Tryz.func207, Tryz.ntmps207
    go_wp2
    go_ret
    exact ⟨rfl, (by repeat' (first | assumption | exact Below.refl _ _ | exact Nat.le_refl _ | refine Below.alloc ?_ ?_ _ | (simp; done) | (simp; omega) | omega))⟩

set_option maxRecDepth 100000 in
set_option maxHeartbeats 4000000 in
theorem canFin_yes (n : Int) (h1 : 0 ≤ n) (h2 : n ≤ 6) (w : World) :
    Calls Tryz.prog 210 #[.agg #[.int .i64 n]] w fun e w' => e = .returned (.bool true) ∧ Below w.heap.size w w' := by
  have h3 : n < 7 := by omega
  go_enter Tryz.func210, Tryz.ntmps210
  go_wp2
  go_ret
  exact ⟨rfl, (by repeat' (first | assumption | exact Below.refl _ _ | exact Nat.le_refl _ | refine Below.alloc ?_ ?_ _ | (simp; done) | (simp; omega) | omega))⟩

set_option maxRecDepth 100000 in
set_option maxHeartbeats 4000000 in
theorem canFin_no (n : Int) (h : n < 0 ∨ 6 < n) (w : World) :
    Calls Tryz.prog 210 #[.agg #[.int .i64 n]] w fun e w' => e = .returned (.bool false) ∧ Below w.heap.size w w' := by
  rcases h with h | h
  · have h1 : ¬ 0 ≤ n := by omega
    go_enter Tryz.func210, Tryz.ntmps210
    go_wp2
    go_ret
    exact ⟨rfl, (by repeat' (first | assumption | exact Below.refl _ _ | exact Nat.le_refl _ | refine Below.alloc ?_ ?_ _ | (simp; done) | (simp; omega) | omega))⟩
  · have h1 : 0 ≤ n := by omega
    have h2 : ¬ n < 7 := by omega
    go_enter Tryz.func210, Tryz.ntmps210
    go_wp2
    go_ret
    exact ⟨rfl, (by repeat' (first | assumption | exact Below.refl _ _ | exact Nat.le_refl _ | refine Below.alloc ?_ ?_ _ | (simp; done) | (simp; omega) | omega))⟩

set_option maxRecDepth 100000 in
set_option maxHeartbeats 4000000 in
theorem canBes_yes (d n : Int) (b : Bool) (h1 : 0 ≤ d) (h2 : d ≤ 6) (h3 : 1 ≤ n) (h4 : n ≤ 31) (w : World) :
    Calls Tryz.prog 213 #[.agg #[.int .i64 d, .int .i64 n, .bool b]] w fun e w' => e = .returned (.bool true) ∧ Below w.heap.size w w' := by
  have h5 : d < 7 := by omega
  go_enter Tryz.func213, Tryz.ntmps213
  go_wp2
  go_ret
  exact ⟨rfl, (by repeat' (first | assumption | exact Below.refl _ _ | exact Nat.le_refl _ | refine Below.alloc ?_ ?_ _ | (simp; done) | (simp; omega) | omega))⟩

set_option maxRecDepth 100000 in
set_option maxHeartbeats 4000000 in
theorem canBes_no (d n : Int) (b : Bool) (h : d < 0 ∨ 6 < d ∨ (0 ≤ d ∧ d ≤ 6 ∧ n < 1) ∨ (0 ≤ d ∧ d ≤ 6 ∧ 31 < n)) (w : World) :
    Calls Tryz.prog 213 #[.agg #[.int .i64 d, .int .i64 n, .bool b]] w fun e w' => e = .returned (.bool false) ∧ Below w.heap.size w w' := by
  rcases h with h | h | ⟨h1, h2, h3⟩ | ⟨h1, h2, h3⟩
  · have h1 : ¬ 0 ≤ d := by omega
    go_enter Tryz.func213, Tryz.ntmps213
    go_wp2
    go_ret
    exact ⟨rfl, (by repeat' (first | assumption | exact Below.refl _ _ | exact Nat.le_refl _ | refine Below.alloc ?_ ?_ _ | (simp; done) | (simp; omega) | omega))⟩
  · have h1 : 0 ≤ d := by omega
    have h2 : ¬ d < 7 := by omega
    go_enter Tryz.func213, Tryz.ntmps213
    go_wp2
    go_ret
    exact ⟨rfl, (by repeat' (first | assumption | exact Below.refl _ _ | exact Nat.le_refl _ | refine Below.alloc ?_ ?_ _ | (simp; done) | (simp; omega) | omega))⟩
  · have h4 : d < 7 := by omega
    have h5 : ¬ 1 ≤ n := by omega
    go_enter Tryz.func213, Tryz.ntmps213
    go_wp2
    go_ret
    exact ⟨rfl, (by repeat' (first | assumption | exact Below.refl _ _ | exact Nat.le_refl _ | refine Below.alloc ?_ ?_ _ | (simp; done) | (simp; omega) | omega))⟩
  · have h4 : d < 7 := by omega
    have h5 : 1 ≤ n := by omega
    have h6 : ¬ n ≤ 31 := by omega
    go_enter Tryz.func213, Tryz.ntmps213
    go_wp2
    go_ret
    exact ⟨rfl, (by repeat' (first | assumption | exact Below.refl _ _ | exact Nat.le_refl _ | refine Below.alloc ?_ ?_ _ | (simp; done) | (simp; omega) | omega))⟩

set_option maxRecDepth 100000 in
set_option maxHeartbeats 4000000 in
theorem onNum (n : Int) (w : World) :
    Calls Tryz.prog 208 #[.agg #[.int .i64 n]] w fun e w' => e = .returned (.agg #[.int .i64 0, .int .i64 0, .int .i64 n]) ∧ Below w.heap.size w w' := by
  go_enter Tryz.func208, Tryz.ntmps208
  go_wp2
  refine bodyPost_ret (v := .agg #[.int .i64 0, .int .i64 0, .int .i64 n]) (by simp [results, Tryz.results208, go_sem]) rfl ⟨rfl, (by repeat' (first | assumption | exact Below.refl _ _ | exact Nat.le_refl _ | refine Below.alloc ?_ ?_ _ | (simp; done) | (simp; omega) | omega))⟩

set_option maxRecDepth 100000 in
set_option maxHeartbeats 4000000 in
theorem onFin (d : Int) (w : World) :
    Calls Tryz.prog 211 #[.agg #[.int .i64 d]] w fun e w' => e = .returned (.agg #[.int .i64 1, .int .i64 d, .int .i64 0]) ∧ Below w.heap.size w w' := by
  go_enter Tryz.func211, Tryz.ntmps211
  go_wp2
  refine bodyPost_ret (v := .agg #[.int .i64 1, .int .i64 d, .int .i64 0]) (by simp [results, Tryz.results211, go_sem]) rfl ⟨rfl, (by repeat' (first | assumption | exact Below.refl _ _ | exact Nat.le_refl _ | refine Below.alloc ?_ ?_ _ | (simp; done) | (simp; omega) | omega))⟩

set_option maxRecDepth 100000 in
set_option maxHeartbeats 4000000 in
theorem onBesT (d n : Int) (w : World) :
    Calls Tryz.prog 214 #[.agg #[.int .i64 d, .int .i64 n, .bool true]] w fun e w' => e = .returned (.agg #[.int .i64 3, .int .i64 d, .int .i64 n]) ∧ Below w.heap.size w w' := by
  go_enter Tryz.func214, Tryz.ntmps214
  go_wp2
  refine bodyPost_ret (v := .agg #[.int .i64 3, .int .i64 d, .int .i64 n]) (by simp [results, Tryz.results214, go_sem]) rfl ⟨rfl, (by repeat' (first | assumption | exact Below.refl _ _ | exact Nat.le_refl _ | refine Below.alloc ?_ ?_ _ | (simp; done) | (simp; omega) | omega))⟩

set_option maxRecDepth 100000 in
set_option maxHeartbeats 4000000 in
theorem onBesF (d n : Int) (w : World) :
    Calls Tryz.prog 214 #[.agg #[.int .i64 d, .int .i64 n, .bool false]] w fun e w' => e = .returned (.agg #[.int .i64 2, .int .i64 d, .int .i64 n]) ∧ Below w.heap.size w w' := by
  go_enter Tryz.func214, Tryz.ntmps214
  go_wp2
  refine bodyPost_ret (v := .agg #[.int .i64 2, .int .i64 d, .int .i64 n]) (by simp [results, Tryz.results214, go_sem]) rfl ⟨rfl, (by repeat' (first | assumption | exact Below.refl _ _ | exact Nat.le_refl _ | refine Below.alloc ?_ ?_ _ | (simp; done) | (simp; omega) | omega))⟩

end Go.Proofs.YtgnfkkcagbbhmaaGreatDoor
