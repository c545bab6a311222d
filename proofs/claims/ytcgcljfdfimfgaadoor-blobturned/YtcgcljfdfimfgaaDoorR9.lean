import Derived.Test.YtcgcljfdfimfgaaDoorR8
import Derived.Deep.RegionHeld3
import Derived.Deep.RegionWith
import Derived.Deep.DeepMust
/- Contracts of package when's forms: which way a day is said; whether it can be. -/
namespace Go.Proofs.YtcgcljfdfimfgaaDoor
open Go.RowKit
set_option linter.unusedVariables false

/-- can it be a day of a month? -/
def okOn (k d n : Int) : Prop := (k = 0 ∧ 1 ≤ n ∧ n ≤ 31 ∧ d = 0) ∨ (k = 1 ∧ 0 ≤ d ∧ d ≤ 6 ∧ n = 0) ∨ ((k = 2 ∨ k = 3) ∧ 0 ≤ d ∧ d ≤ 6 ∧ 1 ≤ n ∧ n ≤ 31)
instance (k d n : Int) : Decidable (okOn k d n) := by unfold okOn; infer_instance
def formV (k d n : Int) : Value :=
  if k = 0 then .iface 134 (.agg #[.int .i64 n]) else if k = 1 then .iface 136 (.agg #[.int .i64 d]) else .iface 138 (.agg #[.int .i64 d, .int .i64 n, .bool (decide (k = 3))])
def onV (k d n : Int) : Value := .agg #[.int .i64 k, .int .i64 d, .int .i64 n]

/-- a block that holds a day of a month, as the call made it. -/
def OnS (w : World) (b : Nat) (k d n : Int) (W : World) : Prop :=
  b < W.heap.size ∧ W.cell? ⟨b, 0, none⟩ = some (.int .i64 k) ∧ W.cell? ⟨b, 1, none⟩ = some (.int .i64 d) ∧ W.cell? ⟨b, 2, none⟩ = some (.int .i64 n) ∧ Below w.heap.size w W
theorem OnS.below {w W W1 : World} {b : Nat} {k d n : Int} (h : OnS w b k d n W) (hb : Below W.heap.size W W1) : OnS w b k d n W1 :=
  ⟨Nat.lt_of_lt_of_le h.1 hb.size, (hb.cell (p := ⟨b, 0, none⟩) h.1).trans h.2.1, (hb.cell (p := ⟨b, 1, none⟩) h.1).trans h.2.2.1, (hb.cell (p := ⟨b, 2, none⟩) h.1).trans h.2.2.2.1, h.2.2.2.2.trans (hb.mono h.2.2.2.2.size)⟩
theorem OnS.drew {w W : World} {b : Nat} {k d n : Int} (h : OnS w b k d n W) : OnS w b k d n W.drew := ⟨h.1, h.2.1, h.2.2.1, h.2.2.2.1, h.2.2.2.2.drew⟩
theorem OnS.new (w : World) (k d n : Int) (t : TypeId) : OnS w w.heap.size k d n (w.alloc (.cells #[.int .i64 k, .int .i64 d, .int .i64 n] t)) :=
  ⟨by simp, by rw [World.cell?_alloc_at _ _ _ _ rfl]; rfl, by rw [World.cell?_alloc_at _ _ _ _ rfl]; rfl, by rw [World.cell?_alloc_at _ _ _ _ rfl]; rfl, (Below.refl _ _).alloc (Nat.le_refl _) _⟩

set_option maxRecDepth 100000 in
set_option maxHeartbeats 4000000 in
theorem canNum_yes (n : Int) (h1 : 1 ≤ n) (h2 : n ≤ 31) (w : World) :
    Calls Tryd.prog 109 #[.agg #[.int .i64 n]] w fun e w' => e = .returned (.bool true) ∧ Below w.heap.size w w' := by
  go_enter Tryd.func109, Tryd.ntmps109
  go_wp2
  go_ret
  exact ⟨rfl, (by repeat' (first | assumption | exact Below.refl _ _ | exact Nat.le_refl _ | refine Below.alloc ?_ ?_ _ | (simp; done) | (simp; omega) | omega))⟩

set_option maxRecDepth 100000 in
set_option maxHeartbeats 4000000 in
theorem canNum_no (n : Int) (h : n < 1 ∨ 31 < n) (w : World) :
    Calls Tryd.prog 109 #[.agg #[.int .i64 n]] w fun e w' => e = .returned (.bool false) ∧ Below w.heap.size w w' := by
  rcases h with h | h
  · have h1 : ¬ 1 ≤ n := by omega
    go_enter Tryd.func109, Tryd.ntmps109
    go_wp2
    go_ret
    exact ⟨rfl, (by repeat' (first | assumption | exact Below.refl _ _ | exact Nat.le_refl _ | refine Below.alloc ?_ ?_ _ | (simp; done) | (simp; omega) | omega))⟩
  · have h1 : 1 ≤ n := by omega
    have h2 : ¬ n ≤ 31 := by omega
    go_enter Tryd.func109, Tryd.ntmps109
    go_wp2
    go_ret
    exact ⟨rfl, (by repeat' (first | assumption | exact Below.refl _ _ | exact Nat.le_refl _ | refine Below.alloc ?_ ?_ _ | (simp; done) | (simp; omega) | omega))⟩

set_option maxRecDepth 100000 in
set_option maxHeartbeats 4000000 in
theorem canFin_yes (n : Int) (h1 : 0 ≤ n) (h2 : n ≤ 6) (w : World) :
    Calls Tryd.prog 112 #[.agg #[.int .i64 n]] w fun e w' => e = .returned (.bool true) ∧ Below w.heap.size w w' := by
  have h3 : n < 7 := by omega
  go_enter Tryd.func112, Tryd.ntmps112
  go_wp2
  go_ret
  exact ⟨rfl, (by repeat' (first | assumption | exact Below.refl _ _ | exact Nat.le_refl _ | refine Below.alloc ?_ ?_ _ | (simp; done) | (simp; omega) | omega))⟩

set_option maxRecDepth 100000 in
set_option maxHeartbeats 4000000 in
theorem canFin_no (n : Int) (h : n < 0 ∨ 6 < n) (w : World) :
    Calls Tryd.prog 112 #[.agg #[.int .i64 n]] w fun e w' => e = .returned (.bool false) ∧ Below w.heap.size w w' := by
  rcases h with h | h
  · have h1 : ¬ 0 ≤ n := by omega
    go_enter Tryd.func112, Tryd.ntmps112
    go_wp2
    go_ret
    exact ⟨rfl, (by repeat' (first | assumption | exact Below.refl _ _ | exact Nat.le_refl _ | refine Below.alloc ?_ ?_ _ | (simp; done) | (simp; omega) | omega))⟩
  · have h1 : 0 ≤ n := by omega
    have h2 : ¬ n < 7 := by omega
    go_enter Tryd.func112, Tryd.ntmps112
    go_wp2
    go_ret
    exact ⟨rfl, (by repeat' (first | assumption | exact Below.refl _ _ | exact Nat.le_refl _ | refine Below.alloc ?_ ?_ _ | (simp; done) | (simp; omega) | omega))⟩

set_option maxRecDepth 100000 in
set_option maxHeartbeats 4000000 in
theorem canBes_yes (d n : Int) (b : Bool) (h1 : 0 ≤ d) (h2 : d ≤ 6) (h3 : 1 ≤ n) (h4 : n ≤ 31) (w : World) :
    Calls Tryd.prog 115 #[.agg #[.int .i64 d, .int .i64 n, .bool b]] w fun e w' => e = .returned (.bool true) ∧ Below w.heap.size w w' := by
  have h5 : d < 7 := by omega
  go_enter Tryd.func115, Tryd.ntmps115
  go_wp2
  go_ret
  exact ⟨rfl, (by repeat' (first | assumption | exact Below.refl _ _ | exact Nat.le_refl _ | refine Below.alloc ?_ ?_ _ | (simp; done) | (simp; omega) | omega))⟩

set_option maxRecDepth 100000 in
set_option maxHeartbeats 4000000 in
theorem canBes_no (d n : Int) (b : Bool) (h : d < 0 ∨ 6 < d ∨ (0 ≤ d ∧ d ≤ 6 ∧ n < 1) ∨ (0 ≤ d ∧ d ≤ 6 ∧ 31 < n)) (w : World) :
    Calls Tryd.prog 115 #[.agg #[.int .i64 d, .int .i64 n, .bool b]] w fun e w' => e = .returned (.bool false) ∧ Below w.heap.size w w' := by
  rcases h with h | h | ⟨h1, h2, h3⟩ | ⟨h1, h2, h3⟩
  · have h1 : ¬ 0 ≤ d := by omega
    go_enter Tryd.func115, Tryd.ntmps115
    go_wp2
    go_ret
    exact ⟨rfl, (by repeat' (first | assumption | exact Below.refl _ _ | exact Nat.le_refl _ | refine Below.alloc ?_ ?_ _ | (simp; done) | (simp; omega) | omega))⟩
  · have h1 : 0 ≤ d := by omega
    have h2 : ¬ d < 7 := by omega
    go_enter Tryd.func115, Tryd.ntmps115
    go_wp2
    go_ret
    exact ⟨rfl, (by repeat' (first | assumption | exact Below.refl _ _ | exact Nat.le_refl _ | refine Below.alloc ?_ ?_ _ | (simp; done) | (simp; omega) | omega))⟩
  · have h4 : d < 7 := by omega
    have h5 : ¬ 1 ≤ n := by omega
    go_enter Tryd.func115, Tryd.ntmps115
    go_wp2
    go_ret
    exact ⟨rfl, (by repeat' (first | assumption | exact Below.refl _ _ | exact Nat.le_refl _ | refine Below.alloc ?_ ?_ _ | (simp; done) | (simp; omega) | omega))⟩
  · have h4 : d < 7 := by omega
    have h5 : 1 ≤ n := by omega
    have h6 : ¬ n ≤ 31 := by omega
    go_enter Tryd.func115, Tryd.ntmps115
    go_wp2
    go_ret
    exact ⟨rfl, (by repeat' (first | assumption | exact Below.refl _ _ | exact Nat.le_refl _ | refine Below.alloc ?_ ?_ _ | (simp; done) | (simp; omega) | omega))⟩

set_option maxRecDepth 100000 in
set_option maxHeartbeats 4000000 in
theorem onNum (n : Int) (w : World) :
    Calls Tryd.prog 110 #[.agg #[.int .i64 n]] w fun e w' => e = .returned (.agg #[.int .i64 0, .int .i64 0, .int .i64 n]) ∧ Below w.heap.size w w' := by
  go_enter Tryd.func110, Tryd.ntmps110
  go_wp2
  refine bodyPost_ret (v := .agg #[.int .i64 0, .int .i64 0, .int .i64 n]) (by simp [results, Tryd.results110, go_sem]) rfl ⟨rfl, (by repeat' (first | assumption | exact Below.refl _ _ | exact Nat.le_refl _ | refine Below.alloc ?_ ?_ _ | (simp; done) | (simp; omega) | omega))⟩

set_option maxRecDepth 100000 in
set_option maxHeartbeats 4000000 in
theorem onFin (d : Int) (w : World) :
    Calls Tryd.prog 113 #[.agg #[.int .i64 d]] w fun e w' => e = .returned (.agg #[.int .i64 1, .int .i64 d, .int .i64 0]) ∧ Below w.heap.size w w' := by
  go_enter Tryd.func113, Tryd.ntmps113
  go_wp2
  refine bodyPost_ret (v := .agg #[.int .i64 1, .int .i64 d, .int .i64 0]) (by simp [results, Tryd.results113, go_sem]) rfl ⟨rfl, (by repeat' (first | assumption | exact Below.refl _ _ | exact Nat.le_refl _ | refine Below.alloc ?_ ?_ _ | (simp; done) | (simp; omega) | omega))⟩

set_option maxRecDepth 100000 in
set_option maxHeartbeats 4000000 in
theorem onBesT (d n : Int) (w : World) :
    Calls Tryd.prog 116 #[.agg #[.int .i64 d, .int .i64 n, .bool true]] w fun e w' => e = .returned (.agg #[.int .i64 3, .int .i64 d, .int .i64 n]) ∧ Below w.heap.size w w' := by
  go_enter Tryd.func116, Tryd.ntmps116
  go_wp2
  refine bodyPost_ret (v := .agg #[.int .i64 3, .int .i64 d, .int .i64 n]) (by simp [results, Tryd.results116, go_sem]) rfl ⟨rfl, (by repeat' (first | assumption | exact Below.refl _ _ | exact Nat.le_refl _ | refine Below.alloc ?_ ?_ _ | (simp; done) | (simp; omega) | omega))⟩

set_option maxRecDepth 100000 in
set_option maxHeartbeats 4000000 in
theorem onBesF (d n : Int) (w : World) :
    Calls Tryd.prog 116 #[.agg #[.int .i64 d, .int .i64 n, .bool false]] w fun e w' => e = .returned (.agg #[.int .i64 2, .int .i64 d, .int .i64 n]) ∧ Below w.heap.size w w' := by
  go_enter Tryd.func116, Tryd.ntmps116
  go_wp2
  refine bodyPost_ret (v := .agg #[.int .i64 2, .int .i64 d, .int .i64 n]) (by simp [results, Tryd.results116, go_sem]) rfl ⟨rfl, (by repeat' (first | assumption | exact Below.refl _ _ | exact Nat.le_refl _ | refine Below.alloc ?_ ?_ _ | (simp; done) | (simp; omega) | omega))⟩

set_option maxRecDepth 100000 in
set_option maxHeartbeats 4000000 in
theorem fo_num (n : Int) (h1 : 1 ≤ n) (h2 : n ≤ 31) (w : World) :
    Calls Tryd.prog 68 #[.agg #[.int .i64 0, .int .i64 0, .int .i64 n]] w fun e w' => e = .returned (.iface 134 (.agg #[.int .i64 n])) ∧ Below w.heap.size w w' := by
  have C : Hid (∀ w : World, Calls Tryd.prog 109 #[.agg #[.int .i64 n]] w fun e w' => e = .returned (.bool true) ∧ Below w.heap.size w w') := canNum_yes n h1 h2
  have O : Hid (∀ w : World, Calls Tryd.prog 110 #[.agg #[.int .i64 n]] w fun e w' => e = .returned (.agg #[.int .i64 0, .int .i64 0, .int .i64 n]) ∧ Below w.heap.size w w') := onNum n
  have S0 : Hid (OnS w w.heap.size 0 0 n (w.alloc (.cells #[.int .i64 0, .int .i64 0, .int .i64 n] 39))) := OnS.new w _ _ _ _
  go_enter Tryd.func68, Tryd.ntmps68
  go_wp2_with fail
  refine wp_region_held_drew (S := OnS w w.heap.size 0 0 n) (by kernel_rfl) S0.out.drew (fun hHeld => ?_)
  refine wpAnyH_take (i := 0) (v := ?_) (oi := { dst := some 30, op := _, type := _, pos := _, after := _, guard := none }) rfl (by kernel_rfl) (by kernel_rfl) (by kernel_rfl) (fun _ _ _ h => h) (Or.inl ⟨by kernel_rfl, ?_⟩) (by assumption) ?_
  case refine_2 => (intro w9 hSw; clear hSw; go_simp; try with_reducible rfl)
  simp only [Act.put, List.setIfInBounds_toArray, List.set_cons_zero, List.set_cons_succ]
  refine wpAnyH_ready (rs := [1]) (by kernel_rfl) (by simp) (AllReadyH.cons (o := { dst := some 31, op := _, type := _, pos := _, after := _, guard := none }) rfl (fun K hK => ?_) AllReadyH.nil)
  go_simp
  refine (C.out _).mono ?_
  rintro e v1 ⟨rfl, hb1⟩
  refine hK.out _ _ (hHeld.below hb1) (fun hHeld => ?_)
  clear hK K hb1
  refine wpAnyH_take (i := 2) (v := ?_) (oi := { dst := some 32, op := _, type := _, pos := _, after := _, guard := none }) rfl (by kernel_rfl) (by kernel_rfl) (by kernel_rfl) (fun _ _ _ h => h) (Or.inl ⟨by kernel_rfl, ?_⟩) (by assumption) ?_
  case refine_2 => (intro w9 hSw; clear hSw; go_simp; try with_reducible rfl)
  simp only [Act.put, List.setIfInBounds_toArray, List.set_cons_zero, List.set_cons_succ]
  refine wpAnyH_take (i := 3) (v := ?_) (oi := { dst := some 33, op := _, type := _, pos := _, after := _, guard := none }) rfl (by kernel_rfl) (by kernel_rfl) (by kernel_rfl) (fun _ _ _ h => h) (Or.inl ⟨by kernel_rfl, ?_⟩) (by assumption) ?_
  case refine_2 => (intro w9 hSw; clear hSw; go_simp; try with_reducible rfl)
  simp only [Act.put, List.setIfInBounds_toArray, List.set_cons_zero, List.set_cons_succ]
  refine wpAnyH_take (i := 4) (v := ?_) (oi := { dst := some 34, op := _, type := _, pos := _, after := _, guard := some (3, false) }) rfl (by kernel_rfl) (by kernel_rfl) (by kernel_rfl) (fun _ _ _ h => h) (Or.inl ⟨by kernel_rfl, ?_⟩) (by assumption) ?_
  case refine_2 => (intro w9 hSw; clear hSw; go_simp; try with_reducible rfl)
  simp only [Act.put, List.setIfInBounds_toArray, List.set_cons_zero, List.set_cons_succ]
  refine wpAnyH_take (i := 6) (v := ?_) (oi := { dst := some 36, op := _, type := _, pos := _, after := _, guard := some (3, false) }) rfl (by kernel_rfl) (by kernel_rfl) (by kernel_rfl) (fun _ _ _ h => h) (Or.inl ⟨by kernel_rfl, ?_⟩) (by assumption) ?_
  case refine_2 => (intro w9 hSw; obtain ⟨sa, sb, sc, sd, se⟩ := hSw; clear se; go_simp; try with_reducible rfl)
  simp only [Act.put, List.setIfInBounds_toArray, List.set_cons_zero, List.set_cons_succ]
  refine wpAnyH_ready (rs := [5]) (by kernel_rfl) (by simp) (AllReadyH.cons (o := { dst := some 35, op := _, type := _, pos := _, after := _, guard := some (3, false) }) rfl (fun K hK => ?_) AllReadyH.nil)
  go_simp
  refine (O.out _).mono ?_
  rintro e v2 ⟨rfl, hb2⟩
  refine hK.out _ _ (hHeld.below hb2) (fun hHeld => ?_)
  clear hK K hb2
  refine wpAnyH_take (i := 7) (v := ?_) (oi := { dst := some 37, op := _, type := _, pos := _, after := _, guard := some (3, false) }) rfl (by kernel_rfl) (by kernel_rfl) (by kernel_rfl) (fun _ _ _ h => h) (Or.inl ⟨by kernel_rfl, ?_⟩) (by assumption) ?_
  case refine_2 => (intro w9 hSw; clear hSw; go_simp; try with_reducible rfl)
  simp only [Act.put, List.setIfInBounds_toArray, List.set_cons_zero, List.set_cons_succ]
  refine wpAnyH_take (i := 8) (v := ?_) (oi := { dst := some 38, op := _, type := _, pos := _, after := _, guard := none }) rfl (by kernel_rfl) (by kernel_rfl) (by kernel_rfl) (fun _ _ _ h => h) (Or.inl ⟨by kernel_rfl, ?_⟩) (by assumption) ?_
  case refine_2 => (intro w9 hSw; clear hSw; go_simp; try with_reducible rfl)
  simp only [Act.put, List.setIfInBounds_toArray, List.set_cons_zero, List.set_cons_succ]
  refine wpAnyH_done (by kernel_rfl) ?_ _
  have HB : Hid (Below w.heap.size w _) := hHeld.2.2.2.2
  clear hHeld
  go_wp2
  go_ret
  exact ⟨rfl, HB.out⟩

set_option maxRecDepth 100000 in
set_option maxHeartbeats 4000000 in
theorem fo_fin (d : Int) (h1 : 0 ≤ d) (h2 : d ≤ 6) (w : World) :
    Calls Tryd.prog 68 #[.agg #[.int .i64 1, .int .i64 d, .int .i64 0]] w fun e w' => e = .returned (.iface 136 (.agg #[.int .i64 d])) ∧ Below w.heap.size w w' := by
  have C : Hid (∀ w : World, Calls Tryd.prog 112 #[.agg #[.int .i64 d]] w fun e w' => e = .returned (.bool true) ∧ Below w.heap.size w w') := canFin_yes d h1 h2
  have O : Hid (∀ w : World, Calls Tryd.prog 113 #[.agg #[.int .i64 d]] w fun e w' => e = .returned (.agg #[.int .i64 1, .int .i64 d, .int .i64 0]) ∧ Below w.heap.size w w') := onFin d
  have S0 : Hid (OnS w w.heap.size 1 d 0 (w.alloc (.cells #[.int .i64 1, .int .i64 d, .int .i64 0] 39))) := OnS.new w _ _ _ _
  go_enter Tryd.func68, Tryd.ntmps68
  go_wp2_with fail
  refine wp_region_held_drew (S := OnS w w.heap.size 1 d 0) (by kernel_rfl) S0.out.drew (fun hHeld => ?_)
  refine wpAnyH_take (i := 0) (v := ?_) (oi := { dst := some 30, op := _, type := _, pos := _, after := _, guard := none }) rfl (by kernel_rfl) (by kernel_rfl) (by kernel_rfl) (fun _ _ _ h => h) (Or.inl ⟨by kernel_rfl, ?_⟩) (by assumption) ?_
  case refine_2 => (intro w9 hSw; clear hSw; go_simp; try with_reducible rfl)
  simp only [Act.put, List.setIfInBounds_toArray, List.set_cons_zero, List.set_cons_succ]
  refine wpAnyH_ready (rs := [1]) (by kernel_rfl) (by simp) (AllReadyH.cons (o := { dst := some 31, op := _, type := _, pos := _, after := _, guard := none }) rfl (fun K hK => ?_) AllReadyH.nil)
  go_simp
  refine (C.out _).mono ?_
  rintro e v1 ⟨rfl, hb1⟩
  refine hK.out _ _ (hHeld.below hb1) (fun hHeld => ?_)
  clear hK K hb1
  refine wpAnyH_take (i := 2) (v := ?_) (oi := { dst := some 32, op := _, type := _, pos := _, after := _, guard := none }) rfl (by kernel_rfl) (by kernel_rfl) (by kernel_rfl) (fun _ _ _ h => h) (Or.inl ⟨by kernel_rfl, ?_⟩) (by assumption) ?_
  case refine_2 => (intro w9 hSw; clear hSw; go_simp; try with_reducible rfl)
  simp only [Act.put, List.setIfInBounds_toArray, List.set_cons_zero, List.set_cons_succ]
  refine wpAnyH_take (i := 3) (v := ?_) (oi := { dst := some 33, op := _, type := _, pos := _, after := _, guard := none }) rfl (by kernel_rfl) (by kernel_rfl) (by kernel_rfl) (fun _ _ _ h => h) (Or.inl ⟨by kernel_rfl, ?_⟩) (by assumption) ?_
  case refine_2 => (intro w9 hSw; clear hSw; go_simp; try with_reducible rfl)
  simp only [Act.put, List.setIfInBounds_toArray, List.set_cons_zero, List.set_cons_succ]
  refine wpAnyH_take (i := 4) (v := ?_) (oi := { dst := some 34, op := _, type := _, pos := _, after := _, guard := some (3, false) }) rfl (by kernel_rfl) (by kernel_rfl) (by kernel_rfl) (fun _ _ _ h => h) (Or.inl ⟨by kernel_rfl, ?_⟩) (by assumption) ?_
  case refine_2 => (intro w9 hSw; clear hSw; go_simp; try with_reducible rfl)
  simp only [Act.put, List.setIfInBounds_toArray, List.set_cons_zero, List.set_cons_succ]
  refine wpAnyH_take (i := 6) (v := ?_) (oi := { dst := some 36, op := _, type := _, pos := _, after := _, guard := some (3, false) }) rfl (by kernel_rfl) (by kernel_rfl) (by kernel_rfl) (fun _ _ _ h => h) (Or.inl ⟨by kernel_rfl, ?_⟩) (by assumption) ?_
  case refine_2 => (intro w9 hSw; obtain ⟨sa, sb, sc, sd, se⟩ := hSw; clear se; go_simp; try with_reducible rfl)
  simp only [Act.put, List.setIfInBounds_toArray, List.set_cons_zero, List.set_cons_succ]
  refine wpAnyH_ready (rs := [5]) (by kernel_rfl) (by simp) (AllReadyH.cons (o := { dst := some 35, op := _, type := _, pos := _, after := _, guard := some (3, false) }) rfl (fun K hK => ?_) AllReadyH.nil)
  go_simp
  refine (O.out _).mono ?_
  rintro e v2 ⟨rfl, hb2⟩
  refine hK.out _ _ (hHeld.below hb2) (fun hHeld => ?_)
  clear hK K hb2
  refine wpAnyH_take (i := 7) (v := ?_) (oi := { dst := some 37, op := _, type := _, pos := _, after := _, guard := some (3, false) }) rfl (by kernel_rfl) (by kernel_rfl) (by kernel_rfl) (fun _ _ _ h => h) (Or.inl ⟨by kernel_rfl, ?_⟩) (by assumption) ?_
  case refine_2 => (intro w9 hSw; clear hSw; go_simp; try with_reducible rfl)
  simp only [Act.put, List.setIfInBounds_toArray, List.set_cons_zero, List.set_cons_succ]
  refine wpAnyH_take (i := 8) (v := ?_) (oi := { dst := some 38, op := _, type := _, pos := _, after := _, guard := none }) rfl (by kernel_rfl) (by kernel_rfl) (by kernel_rfl) (fun _ _ _ h => h) (Or.inl ⟨by kernel_rfl, ?_⟩) (by assumption) ?_
  case refine_2 => (intro w9 hSw; clear hSw; go_simp; try with_reducible rfl)
  simp only [Act.put, List.setIfInBounds_toArray, List.set_cons_zero, List.set_cons_succ]
  refine wpAnyH_done (by kernel_rfl) ?_ _
  have HB : Hid (Below w.heap.size w _) := hHeld.2.2.2.2
  clear hHeld
  go_wp2
  go_ret
  exact ⟨rfl, HB.out⟩

set_option maxRecDepth 100000 in
set_option maxHeartbeats 4000000 in
theorem fo_bes2 (d n : Int) (h1 : 0 ≤ d) (h2 : d ≤ 6) (h3 : 1 ≤ n) (h4 : n ≤ 31) (w : World) :
    Calls Tryd.prog 68 #[.agg #[.int .i64 2, .int .i64 d, .int .i64 n]] w fun e w' => e = .returned (.iface 138 (.agg #[.int .i64 d, .int .i64 n, .bool false])) ∧ Below w.heap.size w w' := by
  have C : Hid (∀ w : World, Calls Tryd.prog 115 #[.agg #[.int .i64 d, .int .i64 n, .bool false]] w fun e w' => e = .returned (.bool true) ∧ Below w.heap.size w w') := canBes_yes d n false h1 h2 h3 h4
  have O : Hid (∀ w : World, Calls Tryd.prog 116 #[.agg #[.int .i64 d, .int .i64 n, .bool false]] w fun e w' => e = .returned (.agg #[.int .i64 2, .int .i64 d, .int .i64 n]) ∧ Below w.heap.size w w') := onBesF d n
  have S0 : Hid (OnS w w.heap.size 2 d n (w.alloc (.cells #[.int .i64 2, .int .i64 d, .int .i64 n] 39))) := OnS.new w _ _ _ _
  go_enter Tryd.func68, Tryd.ntmps68
  go_wp2_with fail
  refine wp_region_held_drew (S := OnS w w.heap.size 2 d n) (by kernel_rfl) S0.out.drew (fun hHeld => ?_)
  refine wpAnyH_take (i := 0) (v := ?_) (oi := { dst := some 30, op := _, type := _, pos := _, after := _, guard := none }) rfl (by kernel_rfl) (by kernel_rfl) (by kernel_rfl) (fun _ _ _ h => h) (Or.inl ⟨by kernel_rfl, ?_⟩) (by assumption) ?_
  case refine_2 => (intro w9 hSw; clear hSw; go_simp; try with_reducible rfl)
  simp only [Act.put, List.setIfInBounds_toArray, List.set_cons_zero, List.set_cons_succ]
  refine wpAnyH_ready (rs := [1]) (by kernel_rfl) (by simp) (AllReadyH.cons (o := { dst := some 31, op := _, type := _, pos := _, after := _, guard := none }) rfl (fun K hK => ?_) AllReadyH.nil)
  go_simp
  refine (C.out _).mono ?_
  rintro e v1 ⟨rfl, hb1⟩
  refine hK.out _ _ (hHeld.below hb1) (fun hHeld => ?_)
  clear hK K hb1
  refine wpAnyH_take (i := 2) (v := ?_) (oi := { dst := some 32, op := _, type := _, pos := _, after := _, guard := none }) rfl (by kernel_rfl) (by kernel_rfl) (by kernel_rfl) (fun _ _ _ h => h) (Or.inl ⟨by kernel_rfl, ?_⟩) (by assumption) ?_
  case refine_2 => (intro w9 hSw; clear hSw; go_simp; try with_reducible rfl)
  simp only [Act.put, List.setIfInBounds_toArray, List.set_cons_zero, List.set_cons_succ]
  refine wpAnyH_take (i := 3) (v := ?_) (oi := { dst := some 33, op := _, type := _, pos := _, after := _, guard := none }) rfl (by kernel_rfl) (by kernel_rfl) (by kernel_rfl) (fun _ _ _ h => h) (Or.inl ⟨by kernel_rfl, ?_⟩) (by assumption) ?_
  case refine_2 => (intro w9 hSw; clear hSw; go_simp; try with_reducible rfl)
  simp only [Act.put, List.setIfInBounds_toArray, List.set_cons_zero, List.set_cons_succ]
  refine wpAnyH_take (i := 4) (v := ?_) (oi := { dst := some 34, op := _, type := _, pos := _, after := _, guard := some (3, false) }) rfl (by kernel_rfl) (by kernel_rfl) (by kernel_rfl) (fun _ _ _ h => h) (Or.inl ⟨by kernel_rfl, ?_⟩) (by assumption) ?_
  case refine_2 => (intro w9 hSw; clear hSw; go_simp; try with_reducible rfl)
  simp only [Act.put, List.setIfInBounds_toArray, List.set_cons_zero, List.set_cons_succ]
  refine wpAnyH_take (i := 6) (v := ?_) (oi := { dst := some 36, op := _, type := _, pos := _, after := _, guard := some (3, false) }) rfl (by kernel_rfl) (by kernel_rfl) (by kernel_rfl) (fun _ _ _ h => h) (Or.inl ⟨by kernel_rfl, ?_⟩) (by assumption) ?_
  case refine_2 => (intro w9 hSw; obtain ⟨sa, sb, sc, sd, se⟩ := hSw; clear se; go_simp; try with_reducible rfl)
  simp only [Act.put, List.setIfInBounds_toArray, List.set_cons_zero, List.set_cons_succ]
  refine wpAnyH_ready (rs := [5]) (by kernel_rfl) (by simp) (AllReadyH.cons (o := { dst := some 35, op := _, type := _, pos := _, after := _, guard := some (3, false) }) rfl (fun K hK => ?_) AllReadyH.nil)
  go_simp
  refine (O.out _).mono ?_
  rintro e v2 ⟨rfl, hb2⟩
  refine hK.out _ _ (hHeld.below hb2) (fun hHeld => ?_)
  clear hK K hb2
  refine wpAnyH_take (i := 7) (v := ?_) (oi := { dst := some 37, op := _, type := _, pos := _, after := _, guard := some (3, false) }) rfl (by kernel_rfl) (by kernel_rfl) (by kernel_rfl) (fun _ _ _ h => h) (Or.inl ⟨by kernel_rfl, ?_⟩) (by assumption) ?_
  case refine_2 => (intro w9 hSw; clear hSw; go_simp; try with_reducible rfl)
  simp only [Act.put, List.setIfInBounds_toArray, List.set_cons_zero, List.set_cons_succ]
  refine wpAnyH_take (i := 8) (v := ?_) (oi := { dst := some 38, op := _, type := _, pos := _, after := _, guard := none }) rfl (by kernel_rfl) (by kernel_rfl) (by kernel_rfl) (fun _ _ _ h => h) (Or.inl ⟨by kernel_rfl, ?_⟩) (by assumption) ?_
  case refine_2 => (intro w9 hSw; clear hSw; go_simp; try with_reducible rfl)
  simp only [Act.put, List.setIfInBounds_toArray, List.set_cons_zero, List.set_cons_succ]
  refine wpAnyH_done (by kernel_rfl) ?_ _
  have HB : Hid (Below w.heap.size w _) := hHeld.2.2.2.2
  clear hHeld
  go_wp2
  go_ret
  exact ⟨rfl, HB.out⟩

set_option maxRecDepth 100000 in
set_option maxHeartbeats 4000000 in
theorem fo_bes3 (d n : Int) (h1 : 0 ≤ d) (h2 : d ≤ 6) (h3 : 1 ≤ n) (h4 : n ≤ 31) (w : World) :
    Calls Tryd.prog 68 #[.agg #[.int .i64 3, .int .i64 d, .int .i64 n]] w fun e w' => e = .returned (.iface 138 (.agg #[.int .i64 d, .int .i64 n, .bool true])) ∧ Below w.heap.size w w' := by
  have C : Hid (∀ w : World, Calls Tryd.prog 115 #[.agg #[.int .i64 d, .int .i64 n, .bool true]] w fun e w' => e = .returned (.bool true) ∧ Below w.heap.size w w') := canBes_yes d n true h1 h2 h3 h4
  have O : Hid (∀ w : World, Calls Tryd.prog 116 #[.agg #[.int .i64 d, .int .i64 n, .bool true]] w fun e w' => e = .returned (.agg #[.int .i64 3, .int .i64 d, .int .i64 n]) ∧ Below w.heap.size w w') := onBesT d n
  have S0 : Hid (OnS w w.heap.size 3 d n (w.alloc (.cells #[.int .i64 3, .int .i64 d, .int .i64 n] 39))) := OnS.new w _ _ _ _
  go_enter Tryd.func68, Tryd.ntmps68
  go_wp2_with fail
  refine wp_region_held_drew (S := OnS w w.heap.size 3 d n) (by kernel_rfl) S0.out.drew (fun hHeld => ?_)
  refine wpAnyH_take (i := 0) (v := ?_) (oi := { dst := some 30, op := _, type := _, pos := _, after := _, guard := none }) rfl (by kernel_rfl) (by kernel_rfl) (by kernel_rfl) (fun _ _ _ h => h) (Or.inl ⟨by kernel_rfl, ?_⟩) (by assumption) ?_
  case refine_2 => (intro w9 hSw; clear hSw; go_simp; try with_reducible rfl)
  simp only [Act.put, List.setIfInBounds_toArray, List.set_cons_zero, List.set_cons_succ]
  refine wpAnyH_ready (rs := [1]) (by kernel_rfl) (by simp) (AllReadyH.cons (o := { dst := some 31, op := _, type := _, pos := _, after := _, guard := none }) rfl (fun K hK => ?_) AllReadyH.nil)
  go_simp
  refine (C.out _).mono ?_
  rintro e v1 ⟨rfl, hb1⟩
  refine hK.out _ _ (hHeld.below hb1) (fun hHeld => ?_)
  clear hK K hb1
  refine wpAnyH_take (i := 2) (v := ?_) (oi := { dst := some 32, op := _, type := _, pos := _, after := _, guard := none }) rfl (by kernel_rfl) (by kernel_rfl) (by kernel_rfl) (fun _ _ _ h => h) (Or.inl ⟨by kernel_rfl, ?_⟩) (by assumption) ?_
  case refine_2 => (intro w9 hSw; clear hSw; go_simp; try with_reducible rfl)
  simp only [Act.put, List.setIfInBounds_toArray, List.set_cons_zero, List.set_cons_succ]
  refine wpAnyH_take (i := 3) (v := ?_) (oi := { dst := some 33, op := _, type := _, pos := _, after := _, guard := none }) rfl (by kernel_rfl) (by kernel_rfl) (by kernel_rfl) (fun _ _ _ h => h) (Or.inl ⟨by kernel_rfl, ?_⟩) (by assumption) ?_
  case refine_2 => (intro w9 hSw; clear hSw; go_simp; try with_reducible rfl)
  simp only [Act.put, List.setIfInBounds_toArray, List.set_cons_zero, List.set_cons_succ]
  refine wpAnyH_take (i := 4) (v := ?_) (oi := { dst := some 34, op := _, type := _, pos := _, after := _, guard := some (3, false) }) rfl (by kernel_rfl) (by kernel_rfl) (by kernel_rfl) (fun _ _ _ h => h) (Or.inl ⟨by kernel_rfl, ?_⟩) (by assumption) ?_
  case refine_2 => (intro w9 hSw; clear hSw; go_simp; try with_reducible rfl)
  simp only [Act.put, List.setIfInBounds_toArray, List.set_cons_zero, List.set_cons_succ]
  refine wpAnyH_take (i := 6) (v := ?_) (oi := { dst := some 36, op := _, type := _, pos := _, after := _, guard := some (3, false) }) rfl (by kernel_rfl) (by kernel_rfl) (by kernel_rfl) (fun _ _ _ h => h) (Or.inl ⟨by kernel_rfl, ?_⟩) (by assumption) ?_
  case refine_2 => (intro w9 hSw; obtain ⟨sa, sb, sc, sd, se⟩ := hSw; clear se; go_simp; try with_reducible rfl)
  simp only [Act.put, List.setIfInBounds_toArray, List.set_cons_zero, List.set_cons_succ]
  refine wpAnyH_ready (rs := [5]) (by kernel_rfl) (by simp) (AllReadyH.cons (o := { dst := some 35, op := _, type := _, pos := _, after := _, guard := some (3, false) }) rfl (fun K hK => ?_) AllReadyH.nil)
  go_simp
  refine (O.out _).mono ?_
  rintro e v2 ⟨rfl, hb2⟩
  refine hK.out _ _ (hHeld.below hb2) (fun hHeld => ?_)
  clear hK K hb2
  refine wpAnyH_take (i := 7) (v := ?_) (oi := { dst := some 37, op := _, type := _, pos := _, after := _, guard := some (3, false) }) rfl (by kernel_rfl) (by kernel_rfl) (by kernel_rfl) (fun _ _ _ h => h) (Or.inl ⟨by kernel_rfl, ?_⟩) (by assumption) ?_
  case refine_2 => (intro w9 hSw; clear hSw; go_simp; try with_reducible rfl)
  simp only [Act.put, List.setIfInBounds_toArray, List.set_cons_zero, List.set_cons_succ]
  refine wpAnyH_take (i := 8) (v := ?_) (oi := { dst := some 38, op := _, type := _, pos := _, after := _, guard := none }) rfl (by kernel_rfl) (by kernel_rfl) (by kernel_rfl) (fun _ _ _ h => h) (Or.inl ⟨by kernel_rfl, ?_⟩) (by assumption) ?_
  case refine_2 => (intro w9 hSw; clear hSw; go_simp; try with_reducible rfl)
  simp only [Act.put, List.setIfInBounds_toArray, List.set_cons_zero, List.set_cons_succ]
  refine wpAnyH_done (by kernel_rfl) ?_ _
  have HB : Hid (Below w.heap.size w _) := hHeld.2.2.2.2
  clear hHeld
  go_wp2
  go_ret
  exact ⟨rfl, HB.out⟩

set_option maxRecDepth 100000 in
set_option maxHeartbeats 4000000 in
theorem fo_num_x (d n : Int) (h1 : 1 ≤ n) (h2 : n ≤ 31) (hd : d ≠ 0) (w : World) :
    Calls Tryd.prog 68 #[.agg #[.int .i64 0, .int .i64 d, .int .i64 n]] w fun e w' => e = .returned (.nilIface) ∧ Below w.heap.size w w' := by
  have C : Hid (∀ w : World, Calls Tryd.prog 109 #[.agg #[.int .i64 n]] w fun e w' => e = .returned (.bool true) ∧ Below w.heap.size w w') := canNum_yes n h1 h2
  have O : Hid (∀ w : World, Calls Tryd.prog 110 #[.agg #[.int .i64 n]] w fun e w' => e = .returned (.agg #[.int .i64 0, .int .i64 0, .int .i64 n]) ∧ Below w.heap.size w w') := onNum n
  have S0 : Hid (OnS w w.heap.size 0 d n (w.alloc (.cells #[.int .i64 0, .int .i64 d, .int .i64 n] 39))) := OnS.new w _ _ _ _
  have hd1 : (0 == d) = false := beq_eq_false_iff_ne.2 (fun e => hd e.symm)
  have hd2 : (d == 0) = false := beq_eq_false_iff_ne.2 hd
  go_enter Tryd.func68, Tryd.ntmps68
  go_wp2_with fail
  refine wp_region_held_drew (S := OnS w w.heap.size 0 d n) (by kernel_rfl) S0.out.drew (fun hHeld => ?_)
  refine wpAnyH_take (i := 0) (v := ?_) (oi := { dst := some 30, op := _, type := _, pos := _, after := _, guard := none }) rfl (by kernel_rfl) (by kernel_rfl) (by kernel_rfl) (fun _ _ _ h => h) (Or.inl ⟨by kernel_rfl, ?_⟩) (by assumption) ?_
  case refine_2 => (intro w9 hSw; clear hSw; go_simp; try with_reducible rfl)
  simp only [Act.put, List.setIfInBounds_toArray, List.set_cons_zero, List.set_cons_succ]
  refine wpAnyH_ready (rs := [1]) (by kernel_rfl) (by simp) (AllReadyH.cons (o := { dst := some 31, op := _, type := _, pos := _, after := _, guard := none }) rfl (fun K hK => ?_) AllReadyH.nil)
  go_simp
  refine (C.out _).mono ?_
  rintro e v1 ⟨rfl, hb1⟩
  refine hK.out _ _ (hHeld.below hb1) (fun hHeld => ?_)
  clear hK K hb1
  refine wpAnyH_take (i := 2) (v := ?_) (oi := { dst := some 32, op := _, type := _, pos := _, after := _, guard := none }) rfl (by kernel_rfl) (by kernel_rfl) (by kernel_rfl) (fun _ _ _ h => h) (Or.inl ⟨by kernel_rfl, ?_⟩) (by assumption) ?_
  case refine_2 => (intro w9 hSw; clear hSw; go_simp; try with_reducible rfl)
  simp only [Act.put, List.setIfInBounds_toArray, List.set_cons_zero, List.set_cons_succ]
  refine wpAnyH_take (i := 3) (v := ?_) (oi := { dst := some 33, op := _, type := _, pos := _, after := _, guard := none }) rfl (by kernel_rfl) (by kernel_rfl) (by kernel_rfl) (fun _ _ _ h => h) (Or.inl ⟨by kernel_rfl, ?_⟩) (by assumption) ?_
  case refine_2 => (intro w9 hSw; clear hSw; go_simp; try with_reducible rfl)
  simp only [Act.put, List.setIfInBounds_toArray, List.set_cons_zero, List.set_cons_succ]
  refine wpAnyH_take (i := 4) (v := ?_) (oi := { dst := some 34, op := _, type := _, pos := _, after := _, guard := some (3, false) }) rfl (by kernel_rfl) (by kernel_rfl) (by kernel_rfl) (fun _ _ _ h => h) (Or.inl ⟨by kernel_rfl, ?_⟩) (by assumption) ?_
  case refine_2 => (intro w9 hSw; clear hSw; go_simp; try with_reducible rfl)
  simp only [Act.put, List.setIfInBounds_toArray, List.set_cons_zero, List.set_cons_succ]
  refine wpAnyH_take (i := 6) (v := ?_) (oi := { dst := some 36, op := _, type := _, pos := _, after := _, guard := some (3, false) }) rfl (by kernel_rfl) (by kernel_rfl) (by kernel_rfl) (fun _ _ _ h => h) (Or.inl ⟨by kernel_rfl, ?_⟩) (by assumption) ?_
  case refine_2 => (intro w9 hSw; obtain ⟨sa, sb, sc, sd, se⟩ := hSw; clear se; go_simp; try with_reducible rfl)
  simp only [Act.put, List.setIfInBounds_toArray, List.set_cons_zero, List.set_cons_succ]
  refine wpAnyH_ready (rs := [5]) (by kernel_rfl) (by simp) (AllReadyH.cons (o := { dst := some 35, op := _, type := _, pos := _, after := _, guard := some (3, false) }) rfl (fun K hK => ?_) AllReadyH.nil)
  go_simp
  refine (O.out _).mono ?_
  rintro e v2 ⟨rfl, hb2⟩
  refine hK.out _ _ (hHeld.below hb2) (fun hHeld => ?_)
  clear hK K hb2
  refine wpAnyH_take (i := 7) (v := ?_) (oi := { dst := some 37, op := _, type := _, pos := _, after := _, guard := some (3, false) }) rfl (by kernel_rfl) (by kernel_rfl) (by kernel_rfl) (fun _ _ _ h => h) (Or.inl ⟨by kernel_rfl, ?_⟩) (by assumption) ?_
  case refine_2 => (intro w9 hSw; clear hSw; go_simp; try with_reducible rfl)
  simp only [Act.put, List.setIfInBounds_toArray, List.set_cons_zero, List.set_cons_succ]
  refine wpAnyH_take (i := 8) (v := ?_) (oi := { dst := some 38, op := _, type := _, pos := _, after := _, guard := none }) rfl (by kernel_rfl) (by kernel_rfl) (by kernel_rfl) (fun _ _ _ h => h) (Or.inl ⟨by kernel_rfl, ?_⟩) (by assumption) ?_
  case refine_2 => (intro w9 hSw; clear hSw; go_simp; try with_reducible rfl)
  simp only [Act.put, List.setIfInBounds_toArray, List.set_cons_zero, List.set_cons_succ]
  refine wpAnyH_done (by kernel_rfl) ?_ _
  have HB : Hid (Below w.heap.size w _) := hHeld.2.2.2.2
  clear hHeld
  go_wp2
  go_ret
  exact ⟨rfl, HB.out⟩

set_option maxRecDepth 100000 in
set_option maxHeartbeats 4000000 in
theorem fo_fin_x (d n : Int) (h1 : 0 ≤ d) (h2 : d ≤ 6) (hd : n ≠ 0) (w : World) :
    Calls Tryd.prog 68 #[.agg #[.int .i64 1, .int .i64 d, .int .i64 n]] w fun e w' => e = .returned (.nilIface) ∧ Below w.heap.size w w' := by
  have C : Hid (∀ w : World, Calls Tryd.prog 112 #[.agg #[.int .i64 d]] w fun e w' => e = .returned (.bool true) ∧ Below w.heap.size w w') := canFin_yes d h1 h2
  have O : Hid (∀ w : World, Calls Tryd.prog 113 #[.agg #[.int .i64 d]] w fun e w' => e = .returned (.agg #[.int .i64 1, .int .i64 d, .int .i64 0]) ∧ Below w.heap.size w w') := onFin d
  have S0 : Hid (OnS w w.heap.size 1 d n (w.alloc (.cells #[.int .i64 1, .int .i64 d, .int .i64 n] 39))) := OnS.new w _ _ _ _
  have hd1 : (0 == n) = false := beq_eq_false_iff_ne.2 (fun e => hd e.symm)
  have hd2 : (n == 0) = false := beq_eq_false_iff_ne.2 hd
  go_enter Tryd.func68, Tryd.ntmps68
  go_wp2_with fail
  refine wp_region_held_drew (S := OnS w w.heap.size 1 d n) (by kernel_rfl) S0.out.drew (fun hHeld => ?_)
  refine wpAnyH_take (i := 0) (v := ?_) (oi := { dst := some 30, op := _, type := _, pos := _, after := _, guard := none }) rfl (by kernel_rfl) (by kernel_rfl) (by kernel_rfl) (fun _ _ _ h => h) (Or.inl ⟨by kernel_rfl, ?_⟩) (by assumption) ?_
  case refine_2 => (intro w9 hSw; clear hSw; go_simp; try with_reducible rfl)
  simp only [Act.put, List.setIfInBounds_toArray, List.set_cons_zero, List.set_cons_succ]
  refine wpAnyH_ready (rs := [1]) (by kernel_rfl) (by simp) (AllReadyH.cons (o := { dst := some 31, op := _, type := _, pos := _, after := _, guard := none }) rfl (fun K hK => ?_) AllReadyH.nil)
  go_simp
  refine (C.out _).mono ?_
  rintro e v1 ⟨rfl, hb1⟩
  refine hK.out _ _ (hHeld.below hb1) (fun hHeld => ?_)
  clear hK K hb1
  refine wpAnyH_take (i := 2) (v := ?_) (oi := { dst := some 32, op := _, type := _, pos := _, after := _, guard := none }) rfl (by kernel_rfl) (by kernel_rfl) (by kernel_rfl) (fun _ _ _ h => h) (Or.inl ⟨by kernel_rfl, ?_⟩) (by assumption) ?_
  case refine_2 => (intro w9 hSw; clear hSw; go_simp; try with_reducible rfl)
  simp only [Act.put, List.setIfInBounds_toArray, List.set_cons_zero, List.set_cons_succ]
  refine wpAnyH_take (i := 3) (v := ?_) (oi := { dst := some 33, op := _, type := _, pos := _, after := _, guard := none }) rfl (by kernel_rfl) (by kernel_rfl) (by kernel_rfl) (fun _ _ _ h => h) (Or.inl ⟨by kernel_rfl, ?_⟩) (by assumption) ?_
  case refine_2 => (intro w9 hSw; clear hSw; go_simp; try with_reducible rfl)
  simp only [Act.put, List.setIfInBounds_toArray, List.set_cons_zero, List.set_cons_succ]
  refine wpAnyH_take (i := 4) (v := ?_) (oi := { dst := some 34, op := _, type := _, pos := _, after := _, guard := some (3, false) }) rfl (by kernel_rfl) (by kernel_rfl) (by kernel_rfl) (fun _ _ _ h => h) (Or.inl ⟨by kernel_rfl, ?_⟩) (by assumption) ?_
  case refine_2 => (intro w9 hSw; clear hSw; go_simp; try with_reducible rfl)
  simp only [Act.put, List.setIfInBounds_toArray, List.set_cons_zero, List.set_cons_succ]
  refine wpAnyH_take (i := 6) (v := ?_) (oi := { dst := some 36, op := _, type := _, pos := _, after := _, guard := some (3, false) }) rfl (by kernel_rfl) (by kernel_rfl) (by kernel_rfl) (fun _ _ _ h => h) (Or.inl ⟨by kernel_rfl, ?_⟩) (by assumption) ?_
  case refine_2 => (intro w9 hSw; obtain ⟨sa, sb, sc, sd, se⟩ := hSw; clear se; go_simp; try with_reducible rfl)
  simp only [Act.put, List.setIfInBounds_toArray, List.set_cons_zero, List.set_cons_succ]
  refine wpAnyH_ready (rs := [5]) (by kernel_rfl) (by simp) (AllReadyH.cons (o := { dst := some 35, op := _, type := _, pos := _, after := _, guard := some (3, false) }) rfl (fun K hK => ?_) AllReadyH.nil)
  go_simp
  refine (O.out _).mono ?_
  rintro e v2 ⟨rfl, hb2⟩
  refine hK.out _ _ (hHeld.below hb2) (fun hHeld => ?_)
  clear hK K hb2
  refine wpAnyH_take (i := 7) (v := ?_) (oi := { dst := some 37, op := _, type := _, pos := _, after := _, guard := some (3, false) }) rfl (by kernel_rfl) (by kernel_rfl) (by kernel_rfl) (fun _ _ _ h => h) (Or.inl ⟨by kernel_rfl, ?_⟩) (by assumption) ?_
  case refine_2 => (intro w9 hSw; clear hSw; go_simp; try with_reducible rfl)
  simp only [Act.put, List.setIfInBounds_toArray, List.set_cons_zero, List.set_cons_succ]
  refine wpAnyH_take (i := 8) (v := ?_) (oi := { dst := some 38, op := _, type := _, pos := _, after := _, guard := none }) rfl (by kernel_rfl) (by kernel_rfl) (by kernel_rfl) (fun _ _ _ h => h) (Or.inl ⟨by kernel_rfl, ?_⟩) (by assumption) ?_
  case refine_2 => (intro w9 hSw; clear hSw; go_simp; try with_reducible rfl)
  simp only [Act.put, List.setIfInBounds_toArray, List.set_cons_zero, List.set_cons_succ]
  refine wpAnyH_done (by kernel_rfl) ?_ _
  have HB : Hid (Below w.heap.size w _) := hHeld.2.2.2.2
  clear hHeld
  go_wp2
  go_ret
  exact ⟨rfl, HB.out⟩

set_option maxRecDepth 100000 in
set_option maxHeartbeats 4000000 in
theorem fo_num_n (d n : Int) (h : n < 1 ∨ 31 < n) (w : World) :
    Calls Tryd.prog 68 #[.agg #[.int .i64 0, .int .i64 d, .int .i64 n]] w fun e w' => e = .returned (.nilIface) ∧ Below w.heap.size w w' := by
  have C : Hid (∀ w : World, Calls Tryd.prog 109 #[.agg #[.int .i64 n]] w fun e w' => e = .returned (.bool false) ∧ Below w.heap.size w w') := canNum_no n h
  have S0 : Hid (OnS w w.heap.size 0 d n (w.alloc (.cells #[.int .i64 0, .int .i64 d, .int .i64 n] 39))) := OnS.new w _ _ _ _
  go_enter Tryd.func68, Tryd.ntmps68
  go_wp2_with fail
  refine wp_region_held_drew (S := OnS w w.heap.size 0 d n) (by kernel_rfl) S0.out.drew (fun hHeld => ?_)
  refine wpAnyH_take (i := 0) (v := ?_) (oi := { dst := some 30, op := _, type := _, pos := _, after := _, guard := none }) rfl (by kernel_rfl) (by kernel_rfl) (by kernel_rfl) (fun _ _ _ h => h) (Or.inl ⟨by kernel_rfl, ?_⟩) (by assumption) ?_
  case refine_2 => (intro w9 hSw; clear hSw; go_simp; try with_reducible rfl)
  simp only [Act.put, List.setIfInBounds_toArray, List.set_cons_zero, List.set_cons_succ]
  refine wpAnyH_ready (rs := [1]) (by kernel_rfl) (by simp) (AllReadyH.cons (o := { dst := some 31, op := _, type := _, pos := _, after := _, guard := none }) rfl (fun K hK => ?_) AllReadyH.nil)
  go_simp
  refine (C.out _).mono ?_
  rintro e v1 ⟨rfl, hb1⟩
  refine hK.out _ _ (hHeld.below hb1) (fun hHeld => ?_)
  clear hK K hb1
  refine wpAnyH_take (i := 2) (v := ?_) (oi := { dst := some 32, op := _, type := _, pos := _, after := _, guard := none }) rfl (by kernel_rfl) (by kernel_rfl) (by kernel_rfl) (fun _ _ _ h => h) (Or.inl ⟨by kernel_rfl, ?_⟩) (by assumption) ?_
  case refine_2 => (intro w9 hSw; clear hSw; go_simp; try with_reducible rfl)
  simp only [Act.put, List.setIfInBounds_toArray, List.set_cons_zero, List.set_cons_succ]
  refine wpAnyH_take (i := 3) (v := ?_) (oi := { dst := some 33, op := _, type := _, pos := _, after := _, guard := none }) rfl (by kernel_rfl) (by kernel_rfl) (by kernel_rfl) (fun _ _ _ h => h) (Or.inl ⟨by kernel_rfl, ?_⟩) (by assumption) ?_
  case refine_2 => (intro w9 hSw; clear hSw; go_simp; try with_reducible rfl)
  simp only [Act.put, List.setIfInBounds_toArray, List.set_cons_zero, List.set_cons_succ]
  refine wpAnyH_take (i := 4) (v := undef) (oi := { dst := some 34, op := _, type := _, pos := _, after := _, guard := some (3, false) }) rfl (by kernel_rfl) (by kernel_rfl) (by kernel_rfl) (fun _ _ _ h => h) (Or.inr ⟨by kernel_rfl, rfl⟩) (by assumption) ?_
  simp only [Act.put, List.setIfInBounds_toArray, List.set_cons_zero, List.set_cons_succ]
  refine wpAnyH_take (i := 5) (v := undef) (oi := { dst := some 35, op := _, type := _, pos := _, after := _, guard := some (3, false) }) rfl (by kernel_rfl) (by kernel_rfl) (by kernel_rfl) (fun _ _ _ h => h) (Or.inr ⟨by kernel_rfl, rfl⟩) (by assumption) ?_
  simp only [Act.put, List.setIfInBounds_toArray, List.set_cons_zero, List.set_cons_succ]
  refine wpAnyH_take (i := 6) (v := undef) (oi := { dst := some 36, op := _, type := _, pos := _, after := _, guard := some (3, false) }) rfl (by kernel_rfl) (by kernel_rfl) (by kernel_rfl) (fun _ _ _ h => h) (Or.inr ⟨by kernel_rfl, rfl⟩) (by assumption) ?_
  simp only [Act.put, List.setIfInBounds_toArray, List.set_cons_zero, List.set_cons_succ]
  refine wpAnyH_take (i := 7) (v := undef) (oi := { dst := some 37, op := _, type := _, pos := _, after := _, guard := some (3, false) }) rfl (by kernel_rfl) (by kernel_rfl) (by kernel_rfl) (fun _ _ _ h => h) (Or.inr ⟨by kernel_rfl, rfl⟩) (by assumption) ?_
  simp only [Act.put, List.setIfInBounds_toArray, List.set_cons_zero, List.set_cons_succ]
  refine wpAnyH_take (i := 8) (v := ?_) (oi := { dst := some 38, op := _, type := _, pos := _, after := _, guard := none }) rfl (by kernel_rfl) (by kernel_rfl) (by kernel_rfl) (fun _ _ _ h => h) (Or.inl ⟨by kernel_rfl, ?_⟩) (by assumption) ?_
  case refine_2 => (intro w9 hSw; clear hSw; go_simp; try with_reducible rfl)
  simp only [Act.put, List.setIfInBounds_toArray, List.set_cons_zero, List.set_cons_succ]
  refine wpAnyH_done (by kernel_rfl) ?_ _
  have HB : Hid (Below w.heap.size w _) := hHeld.2.2.2.2
  clear hHeld
  go_wp2
  go_ret
  exact ⟨rfl, HB.out⟩

set_option maxRecDepth 100000 in
set_option maxHeartbeats 4000000 in
theorem fo_fin_n (d n : Int) (h : d < 0 ∨ 6 < d) (w : World) :
    Calls Tryd.prog 68 #[.agg #[.int .i64 1, .int .i64 d, .int .i64 n]] w fun e w' => e = .returned (.nilIface) ∧ Below w.heap.size w w' := by
  have C : Hid (∀ w : World, Calls Tryd.prog 112 #[.agg #[.int .i64 d]] w fun e w' => e = .returned (.bool false) ∧ Below w.heap.size w w') := canFin_no d h
  have S0 : Hid (OnS w w.heap.size 1 d n (w.alloc (.cells #[.int .i64 1, .int .i64 d, .int .i64 n] 39))) := OnS.new w _ _ _ _
  go_enter Tryd.func68, Tryd.ntmps68
  go_wp2_with fail
  refine wp_region_held_drew (S := OnS w w.heap.size 1 d n) (by kernel_rfl) S0.out.drew (fun hHeld => ?_)
  refine wpAnyH_take (i := 0) (v := ?_) (oi := { dst := some 30, op := _, type := _, pos := _, after := _, guard := none }) rfl (by kernel_rfl) (by kernel_rfl) (by kernel_rfl) (fun _ _ _ h => h) (Or.inl ⟨by kernel_rfl, ?_⟩) (by assumption) ?_
  case refine_2 => (intro w9 hSw; clear hSw; go_simp; try with_reducible rfl)
  simp only [Act.put, List.setIfInBounds_toArray, List.set_cons_zero, List.set_cons_succ]
  refine wpAnyH_ready (rs := [1]) (by kernel_rfl) (by simp) (AllReadyH.cons (o := { dst := some 31, op := _, type := _, pos := _, after := _, guard := none }) rfl (fun K hK => ?_) AllReadyH.nil)
  go_simp
  refine (C.out _).mono ?_
  rintro e v1 ⟨rfl, hb1⟩
  refine hK.out _ _ (hHeld.below hb1) (fun hHeld => ?_)
  clear hK K hb1
  refine wpAnyH_take (i := 2) (v := ?_) (oi := { dst := some 32, op := _, type := _, pos := _, after := _, guard := none }) rfl (by kernel_rfl) (by kernel_rfl) (by kernel_rfl) (fun _ _ _ h => h) (Or.inl ⟨by kernel_rfl, ?_⟩) (by assumption) ?_
  case refine_2 => (intro w9 hSw; clear hSw; go_simp; try with_reducible rfl)
  simp only [Act.put, List.setIfInBounds_toArray, List.set_cons_zero, List.set_cons_succ]
  refine wpAnyH_take (i := 3) (v := ?_) (oi := { dst := some 33, op := _, type := _, pos := _, after := _, guard := none }) rfl (by kernel_rfl) (by kernel_rfl) (by kernel_rfl) (fun _ _ _ h => h) (Or.inl ⟨by kernel_rfl, ?_⟩) (by assumption) ?_
  case refine_2 => (intro w9 hSw; clear hSw; go_simp; try with_reducible rfl)
  simp only [Act.put, List.setIfInBounds_toArray, List.set_cons_zero, List.set_cons_succ]
  refine wpAnyH_take (i := 4) (v := undef) (oi := { dst := some 34, op := _, type := _, pos := _, after := _, guard := some (3, false) }) rfl (by kernel_rfl) (by kernel_rfl) (by kernel_rfl) (fun _ _ _ h => h) (Or.inr ⟨by kernel_rfl, rfl⟩) (by assumption) ?_
  simp only [Act.put, List.setIfInBounds_toArray, List.set_cons_zero, List.set_cons_succ]
  refine wpAnyH_take (i := 5) (v := undef) (oi := { dst := some 35, op := _, type := _, pos := _, after := _, guard := some (3, false) }) rfl (by kernel_rfl) (by kernel_rfl) (by kernel_rfl) (fun _ _ _ h => h) (Or.inr ⟨by kernel_rfl, rfl⟩) (by assumption) ?_
  simp only [Act.put, List.setIfInBounds_toArray, List.set_cons_zero, List.set_cons_succ]
  refine wpAnyH_take (i := 6) (v := undef) (oi := { dst := some 36, op := _, type := _, pos := _, after := _, guard := some (3, false) }) rfl (by kernel_rfl) (by kernel_rfl) (by kernel_rfl) (fun _ _ _ h => h) (Or.inr ⟨by kernel_rfl, rfl⟩) (by assumption) ?_
  simp only [Act.put, List.setIfInBounds_toArray, List.set_cons_zero, List.set_cons_succ]
  refine wpAnyH_take (i := 7) (v := undef) (oi := { dst := some 37, op := _, type := _, pos := _, after := _, guard := some (3, false) }) rfl (by kernel_rfl) (by kernel_rfl) (by kernel_rfl) (fun _ _ _ h => h) (Or.inr ⟨by kernel_rfl, rfl⟩) (by assumption) ?_
  simp only [Act.put, List.setIfInBounds_toArray, List.set_cons_zero, List.set_cons_succ]
  refine wpAnyH_take (i := 8) (v := ?_) (oi := { dst := some 38, op := _, type := _, pos := _, after := _, guard := none }) rfl (by kernel_rfl) (by kernel_rfl) (by kernel_rfl) (fun _ _ _ h => h) (Or.inl ⟨by kernel_rfl, ?_⟩) (by assumption) ?_
  case refine_2 => (intro w9 hSw; clear hSw; go_simp; try with_reducible rfl)
  simp only [Act.put, List.setIfInBounds_toArray, List.set_cons_zero, List.set_cons_succ]
  refine wpAnyH_done (by kernel_rfl) ?_ _
  have HB : Hid (Below w.heap.size w _) := hHeld.2.2.2.2
  clear hHeld
  go_wp2
  go_ret
  exact ⟨rfl, HB.out⟩

set_option maxRecDepth 100000 in
set_option maxHeartbeats 4000000 in
theorem fo_bes2_n (d n : Int) (h : d < 0 ∨ 6 < d ∨ (0 ≤ d ∧ d ≤ 6 ∧ n < 1) ∨ (0 ≤ d ∧ d ≤ 6 ∧ 31 < n)) (w : World) :
    Calls Tryd.prog 68 #[.agg #[.int .i64 2, .int .i64 d, .int .i64 n]] w fun e w' => e = .returned (.nilIface) ∧ Below w.heap.size w w' := by
  have C : Hid (∀ w : World, Calls Tryd.prog 115 #[.agg #[.int .i64 d, .int .i64 n, .bool false]] w fun e w' => e = .returned (.bool false) ∧ Below w.heap.size w w') := canBes_no d n false h
  have S0 : Hid (OnS w w.heap.size 2 d n (w.alloc (.cells #[.int .i64 2, .int .i64 d, .int .i64 n] 39))) := OnS.new w _ _ _ _
  go_enter Tryd.func68, Tryd.ntmps68
  go_wp2_with fail
  refine wp_region_held_drew (S := OnS w w.heap.size 2 d n) (by kernel_rfl) S0.out.drew (fun hHeld => ?_)
  refine wpAnyH_take (i := 0) (v := ?_) (oi := { dst := some 30, op := _, type := _, pos := _, after := _, guard := none }) rfl (by kernel_rfl) (by kernel_rfl) (by kernel_rfl) (fun _ _ _ h => h) (Or.inl ⟨by kernel_rfl, ?_⟩) (by assumption) ?_
  case refine_2 => (intro w9 hSw; clear hSw; go_simp; try with_reducible rfl)
  simp only [Act.put, List.setIfInBounds_toArray, List.set_cons_zero, List.set_cons_succ]
  refine wpAnyH_ready (rs := [1]) (by kernel_rfl) (by simp) (AllReadyH.cons (o := { dst := some 31, op := _, type := _, pos := _, after := _, guard := none }) rfl (fun K hK => ?_) AllReadyH.nil)
  go_simp
  refine (C.out _).mono ?_
  rintro e v1 ⟨rfl, hb1⟩
  refine hK.out _ _ (hHeld.below hb1) (fun hHeld => ?_)
  clear hK K hb1
  refine wpAnyH_take (i := 2) (v := ?_) (oi := { dst := some 32, op := _, type := _, pos := _, after := _, guard := none }) rfl (by kernel_rfl) (by kernel_rfl) (by kernel_rfl) (fun _ _ _ h => h) (Or.inl ⟨by kernel_rfl, ?_⟩) (by assumption) ?_
  case refine_2 => (intro w9 hSw; clear hSw; go_simp; try with_reducible rfl)
  simp only [Act.put, List.setIfInBounds_toArray, List.set_cons_zero, List.set_cons_succ]
  refine wpAnyH_take (i := 3) (v := ?_) (oi := { dst := some 33, op := _, type := _, pos := _, after := _, guard := none }) rfl (by kernel_rfl) (by kernel_rfl) (by kernel_rfl) (fun _ _ _ h => h) (Or.inl ⟨by kernel_rfl, ?_⟩) (by assumption) ?_
  case refine_2 => (intro w9 hSw; clear hSw; go_simp; try with_reducible rfl)
  simp only [Act.put, List.setIfInBounds_toArray, List.set_cons_zero, List.set_cons_succ]
  refine wpAnyH_take (i := 4) (v := undef) (oi := { dst := some 34, op := _, type := _, pos := _, after := _, guard := some (3, false) }) rfl (by kernel_rfl) (by kernel_rfl) (by kernel_rfl) (fun _ _ _ h => h) (Or.inr ⟨by kernel_rfl, rfl⟩) (by assumption) ?_
  simp only [Act.put, List.setIfInBounds_toArray, List.set_cons_zero, List.set_cons_succ]
  refine wpAnyH_take (i := 5) (v := undef) (oi := { dst := some 35, op := _, type := _, pos := _, after := _, guard := some (3, false) }) rfl (by kernel_rfl) (by kernel_rfl) (by kernel_rfl) (fun _ _ _ h => h) (Or.inr ⟨by kernel_rfl, rfl⟩) (by assumption) ?_
  simp only [Act.put, List.setIfInBounds_toArray, List.set_cons_zero, List.set_cons_succ]
  refine wpAnyH_take (i := 6) (v := undef) (oi := { dst := some 36, op := _, type := _, pos := _, after := _, guard := some (3, false) }) rfl (by kernel_rfl) (by kernel_rfl) (by kernel_rfl) (fun _ _ _ h => h) (Or.inr ⟨by kernel_rfl, rfl⟩) (by assumption) ?_
  simp only [Act.put, List.setIfInBounds_toArray, List.set_cons_zero, List.set_cons_succ]
  refine wpAnyH_take (i := 7) (v := undef) (oi := { dst := some 37, op := _, type := _, pos := _, after := _, guard := some (3, false) }) rfl (by kernel_rfl) (by kernel_rfl) (by kernel_rfl) (fun _ _ _ h => h) (Or.inr ⟨by kernel_rfl, rfl⟩) (by assumption) ?_
  simp only [Act.put, List.setIfInBounds_toArray, List.set_cons_zero, List.set_cons_succ]
  refine wpAnyH_take (i := 8) (v := ?_) (oi := { dst := some 38, op := _, type := _, pos := _, after := _, guard := none }) rfl (by kernel_rfl) (by kernel_rfl) (by kernel_rfl) (fun _ _ _ h => h) (Or.inl ⟨by kernel_rfl, ?_⟩) (by assumption) ?_
  case refine_2 => (intro w9 hSw; clear hSw; go_simp; try with_reducible rfl)
  simp only [Act.put, List.setIfInBounds_toArray, List.set_cons_zero, List.set_cons_succ]
  refine wpAnyH_done (by kernel_rfl) ?_ _
  have HB : Hid (Below w.heap.size w _) := hHeld.2.2.2.2
  clear hHeld
  go_wp2
  go_ret
  exact ⟨rfl, HB.out⟩

set_option maxRecDepth 100000 in
set_option maxHeartbeats 4000000 in
theorem fo_bes3_n (d n : Int) (h : d < 0 ∨ 6 < d ∨ (0 ≤ d ∧ d ≤ 6 ∧ n < 1) ∨ (0 ≤ d ∧ d ≤ 6 ∧ 31 < n)) (w : World) :
    Calls Tryd.prog 68 #[.agg #[.int .i64 3, .int .i64 d, .int .i64 n]] w fun e w' => e = .returned (.nilIface) ∧ Below w.heap.size w w' := by
  have C : Hid (∀ w : World, Calls Tryd.prog 115 #[.agg #[.int .i64 d, .int .i64 n, .bool true]] w fun e w' => e = .returned (.bool false) ∧ Below w.heap.size w w') := canBes_no d n true h
  have S0 : Hid (OnS w w.heap.size 3 d n (w.alloc (.cells #[.int .i64 3, .int .i64 d, .int .i64 n] 39))) := OnS.new w _ _ _ _
  go_enter Tryd.func68, Tryd.ntmps68
  go_wp2_with fail
  refine wp_region_held_drew (S := OnS w w.heap.size 3 d n) (by kernel_rfl) S0.out.drew (fun hHeld => ?_)
  refine wpAnyH_take (i := 0) (v := ?_) (oi := { dst := some 30, op := _, type := _, pos := _, after := _, guard := none }) rfl (by kernel_rfl) (by kernel_rfl) (by kernel_rfl) (fun _ _ _ h => h) (Or.inl ⟨by kernel_rfl, ?_⟩) (by assumption) ?_
  case refine_2 => (intro w9 hSw; clear hSw; go_simp; try with_reducible rfl)
  simp only [Act.put, List.setIfInBounds_toArray, List.set_cons_zero, List.set_cons_succ]
  refine wpAnyH_ready (rs := [1]) (by kernel_rfl) (by simp) (AllReadyH.cons (o := { dst := some 31, op := _, type := _, pos := _, after := _, guard := none }) rfl (fun K hK => ?_) AllReadyH.nil)
  go_simp
  refine (C.out _).mono ?_
  rintro e v1 ⟨rfl, hb1⟩
  refine hK.out _ _ (hHeld.below hb1) (fun hHeld => ?_)
  clear hK K hb1
  refine wpAnyH_take (i := 2) (v := ?_) (oi := { dst := some 32, op := _, type := _, pos := _, after := _, guard := none }) rfl (by kernel_rfl) (by kernel_rfl) (by kernel_rfl) (fun _ _ _ h => h) (Or.inl ⟨by kernel_rfl, ?_⟩) (by assumption) ?_
  case refine_2 => (intro w9 hSw; clear hSw; go_simp; try with_reducible rfl)
  simp only [Act.put, List.setIfInBounds_toArray, List.set_cons_zero, List.set_cons_succ]
  refine wpAnyH_take (i := 3) (v := ?_) (oi := { dst := some 33, op := _, type := _, pos := _, after := _, guard := none }) rfl (by kernel_rfl) (by kernel_rfl) (by kernel_rfl) (fun _ _ _ h => h) (Or.inl ⟨by kernel_rfl, ?_⟩) (by assumption) ?_
  case refine_2 => (intro w9 hSw; clear hSw; go_simp; try with_reducible rfl)
  simp only [Act.put, List.setIfInBounds_toArray, List.set_cons_zero, List.set_cons_succ]
  refine wpAnyH_take (i := 4) (v := undef) (oi := { dst := some 34, op := _, type := _, pos := _, after := _, guard := some (3, false) }) rfl (by kernel_rfl) (by kernel_rfl) (by kernel_rfl) (fun _ _ _ h => h) (Or.inr ⟨by kernel_rfl, rfl⟩) (by assumption) ?_
  simp only [Act.put, List.setIfInBounds_toArray, List.set_cons_zero, List.set_cons_succ]
  refine wpAnyH_take (i := 5) (v := undef) (oi := { dst := some 35, op := _, type := _, pos := _, after := _, guard := some (3, false) }) rfl (by kernel_rfl) (by kernel_rfl) (by kernel_rfl) (fun _ _ _ h => h) (Or.inr ⟨by kernel_rfl, rfl⟩) (by assumption) ?_
  simp only [Act.put, List.setIfInBounds_toArray, List.set_cons_zero, List.set_cons_succ]
  refine wpAnyH_take (i := 6) (v := undef) (oi := { dst := some 36, op := _, type := _, pos := _, after := _, guard := some (3, false) }) rfl (by kernel_rfl) (by kernel_rfl) (by kernel_rfl) (fun _ _ _ h => h) (Or.inr ⟨by kernel_rfl, rfl⟩) (by assumption) ?_
  simp only [Act.put, List.setIfInBounds_toArray, List.set_cons_zero, List.set_cons_succ]
  refine wpAnyH_take (i := 7) (v := undef) (oi := { dst := some 37, op := _, type := _, pos := _, after := _, guard := some (3, false) }) rfl (by kernel_rfl) (by kernel_rfl) (by kernel_rfl) (fun _ _ _ h => h) (Or.inr ⟨by kernel_rfl, rfl⟩) (by assumption) ?_
  simp only [Act.put, List.setIfInBounds_toArray, List.set_cons_zero, List.set_cons_succ]
  refine wpAnyH_take (i := 8) (v := ?_) (oi := { dst := some 38, op := _, type := _, pos := _, after := _, guard := none }) rfl (by kernel_rfl) (by kernel_rfl) (by kernel_rfl) (fun _ _ _ h => h) (Or.inl ⟨by kernel_rfl, ?_⟩) (by assumption) ?_
  case refine_2 => (intro w9 hSw; clear hSw; go_simp; try with_reducible rfl)
  simp only [Act.put, List.setIfInBounds_toArray, List.set_cons_zero, List.set_cons_succ]
  refine wpAnyH_done (by kernel_rfl) ?_ _
  have HB : Hid (Below w.heap.size w _) := hHeld.2.2.2.2
  clear hHeld
  go_wp2
  go_ret
  exact ⟨rfl, HB.out⟩

set_option maxRecDepth 100000 in
set_option maxHeartbeats 4000000 in
theorem fo_other (k d n : Int) (h0 : k ≠ 0) (h1 : k ≠ 1) (h2 : k ≠ 2) (h3 : k ≠ 3) (w : World) :
    Calls Tryd.prog 68 #[.agg #[.int .i64 k, .int .i64 d, .int .i64 n]] w fun e w' => e = .returned .nilIface ∧ Below w.heap.size w w' := by
  have a0 : (k == 0) = false := beq_eq_false_iff_ne.2 h0
  have a1 : (k == 1) = false := beq_eq_false_iff_ne.2 h1
  have a2 : (k == 2) = false := beq_eq_false_iff_ne.2 h2
  have a3 : (k == 3) = false := beq_eq_false_iff_ne.2 h3
  go_enter Tryd.func68, Tryd.ntmps68
  go_wp2
  go_ret
  exact ⟨rfl, (by repeat' (first | assumption | exact Below.refl _ _ | exact Nat.le_refl _ | refine Below.alloc ?_ ?_ _ | (simp; done) | (simp; omega) | omega))⟩

theorem formOf_yes (k d n : Int) (h : okOn k d n) (w : World) :
    Calls Tryd.prog 68 #[onV k d n] w fun e w' => e = .returned (formV k d n) ∧ Below w.heap.size w w' := by
  rcases h with ⟨rfl, h1, h2, rfl⟩ | ⟨rfl, h1, h2, rfl⟩ | ⟨rfl | rfl, h1, h2, h3, h4⟩
  · exact fo_num n h1 h2 w
  · exact fo_fin d h1 h2 w
  · exact fo_bes2 d n h1 h2 h3 h4 w
  · exact fo_bes3 d n h1 h2 h3 h4 w

theorem formOf_no (k d n : Int) (h : ¬ okOn k d n) (w : World) :
    Calls Tryd.prog 68 #[onV k d n] w fun e w' => e = .returned .nilIface ∧ Below w.heap.size w w' := by
  unfold okOn at h
  by_cases k0 : k = 0
  · subst k0
    by_cases c : 1 ≤ n ∧ n ≤ 31
    · exact fo_num_x d n c.1 c.2 (by omega) w
    · exact fo_num_n d n (by omega) w
  · by_cases k1 : k = 1
    · subst k1
      by_cases c : 0 ≤ d ∧ d ≤ 6
      · exact fo_fin_x d n c.1 c.2 (by omega) w
      · exact fo_fin_n d n (by omega) w
    · by_cases k2 : k = 2
      · subst k2
        exact fo_bes2_n d n (by omega) w
      · by_cases k3 : k = 3
        · subst k3
          exact fo_bes3_n d n (by omega) w
        · exact fo_other k d n k0 k1 k2 k3 w

end Go.Proofs.YtcgcljfdfimfgaaDoor
