/- Contracts: when.Day and the reference's Day, whole. -/
import Derived.Test.YthbcicjkmgoliaaDoorWhnA
import Derived.Deep.QuietTactic
import Derived.BigQuiet
import Derived.Deep.LoopGhost
namespace Go.Proofs.YthbcicjkmgoliaaDoor
open Go.RowKit
set_option linter.unusedVariables false

/-- the last day that is that weekday and not behind n. -/
def bk (n d : Int) : Int := n - ((n + 6) % 7 + 7 - d) % 7
def dayN (f l k d n : Int) : Int := if k = 0 then f + n - 1 else if k = 1 then bk (f + l - 1) d else if k = 3 then bk (f + n - 1) d else bk (f + n - 1 + 7 - 1) d
theorem bk_bd (n d : Int) : n - 6 ≤ bk n d ∧ bk n d ≤ n := by unfold bk; omega

set_option maxRecDepth 100000 in
set_option maxHeartbeats 4000000 in
theorem back_any (n d : Int) (h1 : -1000000000000 ≤ n) (h2 : n ≤ 1000000000000) (d1 : 0 ≤ d) (d2 : d ≤ 6) (w : World) :
    Calls Tryd.prog 64 #[.int .i64 n, .int .i64 d] w fun e w' => e = .returned (.int .i64 (bk n d)) ∧ Below w.heap.size w w' := by
  have W1 : Hid (∀ w : World, Calls Tryd.prog 73 #[.int .i64 n] w fun e w' => e = .returned (.int .i64 ((n + 6) % 7)) ∧ w' = w) := fun w => Cvl.weekday_any n w
  obtain ⟨V, hV⟩ : ∃ V, V = bk n d := ⟨_, rfl⟩
  rw [← hV]
  unfold bk at hV
  obtain ⟨q, hq⟩ : ∃ q, q = (n + 6) % 7 := ⟨_, rfl⟩
  rw [← hq] at W1 hV
  have q0 : 0 ≤ q := by omega
  have q1 : q ≤ 6 := by omega
  have e1 : (q + 7 - d).tmod 7 = (q + 7 - d) % 7 := Int.tmod_eq_emod_of_nonneg (by omega)
  clear hq
  subst hV
  go_enter Tryd.func64, Tryd.ntmps64
  go_wp2_with fail
  refine (W1.out _).mono ?_
  rintro e w1 ⟨rfl, rfl⟩
  go_wp2
  go_ret
  exact ⟨rfl, Below.refl _ _⟩

/-- type assertions of the forms. -/
theorem ta_num (n : Int) (w : World) : (Instr.typeAssert (.iface 99 (.agg #[.int .i64 n])) 88 99 true).run Tryd.prog w = .ok (.tuple #[.agg #[.int .i64 n], .bool true]) w := by
  simp [Instr.typeAssert, run_underlying Tryd.underlying99, go_sem, Result.andThen]
theorem ta_fin (n : Int) (w : World) : (Instr.typeAssert (.iface 101 (.agg #[.int .i64 n])) 88 101 true).run Tryd.prog w = .ok (.tuple #[.agg #[.int .i64 n], .bool true]) w := by
  simp [Instr.typeAssert, run_underlying Tryd.underlying101, go_sem, Result.andThen]
theorem ta_bes (v : Value) (w : World) : (Instr.typeAssert (.iface 103 v) 88 103 false).run Tryd.prog w = .ok v w := by
  simp [Instr.typeAssert, run_underlying Tryd.underlying103, go_sem, Result.andThen]
theorem zNum : (Tryd.prog.info? 99).map (·.zero) = some (some (.agg #[.int .i64 0])) := by kernel_rfl
theorem zFin : (Tryd.prog.info? 101).map (·.zero) = some (some (.agg #[.int .i64 0])) := by kernel_rfl
theorem ta_not {t a xT : TypeId} {fs : _} {z : Value} (hu : Tryd.prog.underlying a = some (.struct fs)) (hz : (Tryd.prog.info? a).map (·.zero) = some (some z)) (hne : t ≠ a) (v : Value) (w : World) : (Instr.typeAssert (.iface t v) xT a true).run Tryd.prog w = .ok (.tuple #[z, .bool false]) w := by
  obtain ⟨j, hj, hz'⟩ := Option.map_eq_some_iff.1 hz
  simp [Instr.typeAssert, run_underlying hu, zeroValue, typeInfo, hj, hz', hne, go_sem, Result.andThen]

set_option maxRecDepth 100000 in
set_option maxHeartbeats 4000000 in
theorem dayOf_num (f l n : Int) (f1 : -1000000000 ≤ f) (f2 : f ≤ 1000000000) (n1 : 1 ≤ n) (n2 : n ≤ 31) (w : World) :
    Calls Tryd.prog 50 #[.iface 99 (.agg #[.int .i64 n]), .int .i64 f, .int .i64 l] w fun e w' => e = .returned (.int .i64 (f + n - 1)) ∧ Below w.heap.size w w' := by
  have t1 := ta_num n
  go_enter Tryd.func50, Tryd.ntmps50
  go_wp2
  go_ret
  exact ⟨rfl, (by repeat' (first | assumption | exact Below.refl _ _ | exact Nat.le_refl _ | refine Below.alloc ?_ ?_ _ | (simp; done) | (simp; omega) | omega))⟩

set_option maxRecDepth 100000 in
set_option maxHeartbeats 4000000 in
theorem dayOf_fin (f l d : Int) (f1 : -1000000000 ≤ f) (f2 : f ≤ 1000000000) (l1 : 0 ≤ l) (l2 : l ≤ 31) (d1 : 0 ≤ d) (d2 : d ≤ 6) (w : World) :
    Calls Tryd.prog 50 #[.iface 101 (.agg #[.int .i64 d]), .int .i64 f, .int .i64 l] w fun e w' => e = .returned (.int .i64 (bk (f + l - 1) d)) ∧ Below w.heap.size w w' := by
  have BK : Hid (∀ w : World, Calls Tryd.prog 64 #[.int .i64 (f + l - 1), .int .i64 d] w fun e w' => e = .returned (.int .i64 (bk (f + l - 1) d)) ∧ Below w.heap.size w w') := back_any (f + l - 1) d (by omega) (by omega) d1 d2
  generalize bk (f + l - 1) d = V at *
  have t1 : ∀ w0 : World, (Instr.typeAssert (.iface 101 (.agg #[.int .i64 d])) 88 99 true).run Tryd.prog w0 = .ok (.tuple #[.agg #[.int .i64 0], .bool false]) w0 := ta_not Tryd.underlying99 zNum (by decide) _
  have t2 := ta_fin d
  go_enter Tryd.func50, Tryd.ntmps50
  go_wp2_with fail
  refine (BK.out _).mono ?_
  rintro e w1 ⟨rfl, hb⟩
  go_wp2
  go_ret
  exact ⟨rfl, Below.trans (by repeat' (first | assumption | exact Below.refl _ _ | exact Nat.le_refl _ | refine Below.alloc ?_ ?_ _ | (simp; done) | (simp; omega) | omega)) (hb.mono (by simp; omega))⟩

set_option maxRecDepth 100000 in
set_option maxHeartbeats 4000000 in
theorem dayOf_bes3 (f l d n : Int) (f1 : -1000000000 ≤ f) (f2 : f ≤ 1000000000) (n1 : 1 ≤ n) (n2 : n ≤ 31) (d1 : 0 ≤ d) (d2 : d ≤ 6) (w : World) :
    Calls Tryd.prog 50 #[.iface 103 (.agg #[.int .i64 d, .int .i64 n, .bool true]), .int .i64 f, .int .i64 l] w fun e w' => e = .returned (.int .i64 (bk (f + n - 1) d)) ∧ Below w.heap.size w w' := by
  have BK : Hid (∀ w : World, Calls Tryd.prog 64 #[.int .i64 (f + n - 1), .int .i64 d] w fun e w' => e = .returned (.int .i64 (bk (f + n - 1) d)) ∧ Below w.heap.size w w') := back_any (f + n - 1) d (by omega) (by omega) d1 d2
  generalize bk (f + n - 1) d = V at *
  have t1 : ∀ w0 : World, (Instr.typeAssert (.iface 103 (.agg #[.int .i64 d, .int .i64 n, .bool true])) 88 99 true).run Tryd.prog w0 = .ok (.tuple #[.agg #[.int .i64 0], .bool false]) w0 := ta_not Tryd.underlying99 zNum (by decide) _
  have t2 : ∀ w0 : World, (Instr.typeAssert (.iface 103 (.agg #[.int .i64 d, .int .i64 n, .bool true])) 88 101 true).run Tryd.prog w0 = .ok (.tuple #[.agg #[.int .i64 0], .bool false]) w0 := ta_not Tryd.underlying101 zFin (by decide) _
  have t3 := ta_bes (.agg #[.int .i64 d, .int .i64 n, .bool true])
  go_enter Tryd.func50, Tryd.ntmps50
  go_wp2_with fail
  refine (BK.out _).mono ?_
  rintro e w1 ⟨rfl, hb⟩
  go_wp2
  go_ret
  exact ⟨rfl, Below.trans (by repeat' (first | assumption | exact Below.refl _ _ | exact Nat.le_refl _ | refine Below.alloc ?_ ?_ _ | (simp; done) | (simp; omega) | omega)) (hb.mono (by simp; omega))⟩

set_option maxRecDepth 100000 in
set_option maxHeartbeats 4000000 in
theorem dayOf_bes2 (f l d n : Int) (f1 : -1000000000 ≤ f) (f2 : f ≤ 1000000000) (n1 : 1 ≤ n) (n2 : n ≤ 31) (d1 : 0 ≤ d) (d2 : d ≤ 6) (w : World) :
    Calls Tryd.prog 50 #[.iface 103 (.agg #[.int .i64 d, .int .i64 n, .bool false]), .int .i64 f, .int .i64 l] w fun e w' => e = .returned (.int .i64 (bk (f + n - 1 + 7 - 1) d)) ∧ Below w.heap.size w w' := by
  have BK : Hid (∀ w : World, Calls Tryd.prog 64 #[.int .i64 (f + n - 1 + 7 - 1), .int .i64 d] w fun e w' => e = .returned (.int .i64 (bk (f + n - 1 + 7 - 1) d)) ∧ Below w.heap.size w w') := back_any (f + n - 1 + 7 - 1) d (by omega) (by omega) d1 d2
  generalize bk (f + n - 1 + 7 - 1) d = V at *
  have t1 : ∀ w0 : World, (Instr.typeAssert (.iface 103 (.agg #[.int .i64 d, .int .i64 n, .bool false])) 88 99 true).run Tryd.prog w0 = .ok (.tuple #[.agg #[.int .i64 0], .bool false]) w0 := ta_not Tryd.underlying99 zNum (by decide) _
  have t2 : ∀ w0 : World, (Instr.typeAssert (.iface 103 (.agg #[.int .i64 d, .int .i64 n, .bool false])) 88 101 true).run Tryd.prog w0 = .ok (.tuple #[.agg #[.int .i64 0], .bool false]) w0 := ta_not Tryd.underlying101 zFin (by decide) _
  have t3 := ta_bes (.agg #[.int .i64 d, .int .i64 n, .bool false])
  go_enter Tryd.func50, Tryd.ntmps50
  go_wp2_with fail
  refine (BK.out _).mono ?_
  rintro e w1 ⟨rfl, hb⟩
  go_wp2
  go_ret
  exact ⟨rfl, Below.trans (by repeat' (first | assumption | exact Below.refl _ _ | exact Nat.le_refl _ | refine Below.alloc ?_ ?_ _ | (simp; done) | (simp; omega) | omega)) (hb.mono (by simp; omega))⟩

theorem dayOf_any (f l k d n : Int) (h : okOn k d n) (f1 : -1000000000 ≤ f) (f2 : f ≤ 1000000000) (l1 : 0 ≤ l) (l2 : l ≤ 31) (w : World) :
    Calls Tryd.prog 50 #[formV k d n, .int .i64 f, .int .i64 l] w fun e w' => e = .returned (.int .i64 (dayN f l k d n)) ∧ Below w.heap.size w w' := by
  rcases h with ⟨rfl, h1, h2, rfl⟩ | ⟨rfl, h1, h2, rfl⟩ | ⟨rfl | rfl, h1, h2, h3, h4⟩
  · exact dayOf_num f l n f1 f2 h1 h2 w
  · exact dayOf_fin f l d f1 f2 l1 l2 h1 h2 w
  · exact dayOf_bes2 f l d n f1 f2 h3 h4 h1 h2 w
  · exact dayOf_bes3 f l d n f1 f2 h3 h4 h1 h2 w

set_option maxRecDepth 100000 in
set_option maxHeartbeats 8000000 in
theorem rightOn_yes (k d n : Int) (h : okOn k d n) (w : World) :
    Calls Tryd.prog 40 #[onV k d n] w fun e w' => e = .returned (.bool true) ∧ Below w.heap.size w w' := by
  have HO : Hid (okOn k d n) := h
  unfold onV
  rcases h with ⟨rfl, h1, h2, rfl⟩ | ⟨rfl, h1, h2, rfl⟩ | ⟨rfl | rfl, h1, h2, h3, h4⟩
  · go_enter Tryd.func40, Tryd.ntmps40
    go_wp2
    all_goals first
      | (go_ret; exact ⟨rfl, (by repeat' (first | assumption | exact Below.refl _ _ | exact Nat.le_refl _ | refine Below.alloc ?_ ?_ _ | (simp; done) | (simp; omega) | omega))⟩)
      | (exfalso; have := HO.out; unfold okOn at this; omega)
      | (exfalso; omega)
  · go_enter Tryd.func40, Tryd.ntmps40
    go_wp2
    all_goals first
      | (go_ret; exact ⟨rfl, (by repeat' (first | assumption | exact Below.refl _ _ | exact Nat.le_refl _ | refine Below.alloc ?_ ?_ _ | (simp; done) | (simp; omega) | omega))⟩)
      | (exfalso; have := HO.out; unfold okOn at this; omega)
      | (exfalso; omega)
  · go_enter Tryd.func40, Tryd.ntmps40
    go_wp2
    all_goals first
      | (go_ret; exact ⟨rfl, (by repeat' (first | assumption | exact Below.refl _ _ | exact Nat.le_refl _ | refine Below.alloc ?_ ?_ _ | (simp; done) | (simp; omega) | omega))⟩)
      | (exfalso; have := HO.out; unfold okOn at this; omega)
      | (exfalso; omega)
  · go_enter Tryd.func40, Tryd.ntmps40
    go_wp2
    all_goals first
      | (go_ret; exact ⟨rfl, (by repeat' (first | assumption | exact Below.refl _ _ | exact Nat.le_refl _ | refine Below.alloc ?_ ?_ _ | (simp; done) | (simp; omega) | omega))⟩)
      | (exfalso; have := HO.out; unfold okOn at this; omega)
      | (exfalso; omega)

set_option maxRecDepth 100000 in
set_option maxHeartbeats 8000000 in
theorem rightOn_no (k d n : Int) (h : ¬ okOn k d n) (w : World) :
    Calls Tryd.prog 40 #[onV k d n] w fun e w' => e = .returned (.bool false) ∧ Below w.heap.size w w' := by
  have HO : Hid (¬ okOn k d n) := h
  clear h
  unfold onV
  by_cases k0 : k = 0
  · subst k0
    by_cases d0 : d = 0
    · subst d0
      go_enter Tryd.func40, Tryd.ntmps40
      go_wp2
      all_goals first
        | (go_ret; exact ⟨rfl, (by repeat' (first | assumption | exact Below.refl _ _ | exact Nat.le_refl _ | refine Below.alloc ?_ ?_ _ | (simp; done) | (simp; omega) | omega))⟩)
        | (exfalso; have := HO.out; unfold okOn at this; omega)
        | (exfalso; omega)
    · have d1 : (d == 0) = false := beq_eq_false_iff_ne.2 d0
      go_enter Tryd.func40, Tryd.ntmps40
      go_wp2
      all_goals first
        | (go_ret; exact ⟨rfl, (by repeat' (first | assumption | exact Below.refl _ _ | exact Nat.le_refl _ | refine Below.alloc ?_ ?_ _ | (simp; done) | (simp; omega) | omega))⟩)
        | (exfalso; have := HO.out; unfold okOn at this; omega)
        | (exfalso; omega)
  have e0 : (k == 0) = false := beq_eq_false_iff_ne.2 k0
  by_cases k1 : k = 1
  · subst k1
    by_cases d0 : n = 0
    · subst d0
      go_enter Tryd.func40, Tryd.ntmps40
      go_wp2
      all_goals first
        | (go_ret; exact ⟨rfl, (by repeat' (first | assumption | exact Below.refl _ _ | exact Nat.le_refl _ | refine Below.alloc ?_ ?_ _ | (simp; done) | (simp; omega) | omega))⟩)
        | (exfalso; have := HO.out; unfold okOn at this; omega)
        | (exfalso; omega)
    · have d1 : (n == 0) = false := beq_eq_false_iff_ne.2 d0
      go_enter Tryd.func40, Tryd.ntmps40
      go_wp2
      all_goals first
        | (go_ret; exact ⟨rfl, (by repeat' (first | assumption | exact Below.refl _ _ | exact Nat.le_refl _ | refine Below.alloc ?_ ?_ _ | (simp; done) | (simp; omega) | omega))⟩)
        | (exfalso; have := HO.out; unfold okOn at this; omega)
        | (exfalso; omega)
  have e1 : (k == 1) = false := beq_eq_false_iff_ne.2 k1
  by_cases k2 : k = 2
  · subst k2
    by_cases c : n ≤ 31
    · go_enter Tryd.func40, Tryd.ntmps40
      go_wp2
      all_goals first
        | (go_ret; exact ⟨rfl, (by repeat' (first | assumption | exact Below.refl _ _ | exact Nat.le_refl _ | refine Below.alloc ?_ ?_ _ | (simp; done) | (simp; omega) | omega))⟩)
        | (exfalso; have := HO.out; unfold okOn at this; omega)
        | (exfalso; omega)
    · go_enter Tryd.func40, Tryd.ntmps40
      go_wp2
      all_goals first
        | (go_ret; exact ⟨rfl, (by repeat' (first | assumption | exact Below.refl _ _ | exact Nat.le_refl _ | refine Below.alloc ?_ ?_ _ | (simp; done) | (simp; omega) | omega))⟩)
        | (exfalso; have := HO.out; unfold okOn at this; omega)
        | (exfalso; omega)
  have e2 : (k == 2) = false := beq_eq_false_iff_ne.2 k2
  by_cases k3 : k = 3
  · subst k3
    by_cases c : n ≤ 31
    · go_enter Tryd.func40, Tryd.ntmps40
      go_wp2
      all_goals first
        | (go_ret; exact ⟨rfl, (by repeat' (first | assumption | exact Below.refl _ _ | exact Nat.le_refl _ | refine Below.alloc ?_ ?_ _ | (simp; done) | (simp; omega) | omega))⟩)
        | (exfalso; have := HO.out; unfold okOn at this; omega)
        | (exfalso; omega)
    · go_enter Tryd.func40, Tryd.ntmps40
      go_wp2
      all_goals first
        | (go_ret; exact ⟨rfl, (by repeat' (first | assumption | exact Below.refl _ _ | exact Nat.le_refl _ | refine Below.alloc ?_ ?_ _ | (simp; done) | (simp; omega) | omega))⟩)
        | (exfalso; have := HO.out; unfold okOn at this; omega)
        | (exfalso; omega)
  have e3 : (k == 3) = false := beq_eq_false_iff_ne.2 k3
  go_enter Tryd.func40, Tryd.ntmps40
  go_wp2
  all_goals first
    | (go_ret; exact ⟨rfl, (by repeat' (first | assumption | exact Below.refl _ _ | exact Nat.le_refl _ | refine Below.alloc ?_ ?_ _ | (simp; done) | (simp; omega) | omega))⟩)
    | (exfalso; have := HO.out; unfold okOn at this; omega)
    | (exfalso; omega)

end Go.Proofs.YthbcicjkmgoliaaDoor
