import Derived.Test.YtcgcljfdfimfgaaDoorR9
import Derived.Deep.QuietTactic
import Derived.BigQuiet
import Derived.Deep.LoopGhost
import Derived.Test.YtcgcljfdfimfgaaDoorRows
import Derived.WalkKit
import Derived.WalkSpells
import Derived.WalkLawsBesides
import Derived.Test.YtcgcljfdfimfgaaDoorR3
import Derived.Lib.ItoaNum
import Derived.Lib.AppendIntMem
import Derived.Lib.ItoaLen
/- Contracts: when.Day and the reference's Day, whole. -/
namespace Go.Proofs.YtcgcljfdfimfgaaDoor
open Go.RowKit
set_option linter.unusedVariables false

/-- the last day that is that weekday and not behind n. -/
def bk (n d : Int) : Int := n - ((n + 6) % 7 + 7 - d) % 7
def dayN (f l k d n : Int) : Int := if k = 0 then f + n - 1 else if k = 1 then bk (f + l - 1) d else if k = 3 then bk (f + n - 1) d else bk (f + n - 1 + 7 - 1) d
theorem bk_bd (n d : Int) : n - 6 ≤ bk n d ∧ bk n d ≤ n := by unfold bk; omega

set_option maxRecDepth 100000 in
set_option maxHeartbeats 4000000 in
theorem back_any (n d : Int) (h1 : -1000000000000 ≤ n) (h2 : n ≤ 1000000000000) (d1 : 0 ≤ d) (d2 : d ≤ 6) (w : World) :
    Calls Tryd.prog 76 #[.int .i64 n, .int .i64 d] w fun e w' => e = .returned (.int .i64 (bk n d)) ∧ Below w.heap.size w w' := by
  have W1 : Hid (∀ w : World, Calls Tryd.prog 80 #[.int .i64 n] w fun e w' => e = .returned (.int .i64 ((n + 6) % 7)) ∧ w' = w) := fun w => Cvl.weekday_any n w
  obtain ⟨V, hV⟩ : ∃ V, V = bk n d := ⟨_, rfl⟩
  rw [← hV]
  unfold bk at hV
  obtain ⟨q, hq⟩ : ∃ q, q = (n + 6) % 7 := ⟨_, rfl⟩
  rw [← hq] at W1 hV
  have q0 : 0 ≤ q := by omega
  have q1 : q ≤ 6 := by omega
  have e1 : (q + 7 - d).tmod 7 = (q + 7 - d) % 7 := Int.tmod_eq_emod_of_nonneg (by omega)
  clear hq
  subst hV
  go_enter Tryd.func76, Tryd.ntmps76
  go_wp2_with fail
  refine (W1.out _).mono ?_
  rintro e w1 ⟨rfl, rfl⟩
  go_wp2
  go_ret
  exact ⟨rfl, Below.refl _ _⟩

/-- type assertions of the forms. -/
theorem ta_num (n : Int) (w : World) : (Instr.typeAssert (.iface 134 (.agg #[.int .i64 n])) 124 134 true).run Tryd.prog w = .ok (.tuple #[.agg #[.int .i64 n], .bool true]) w := by
  simp [Instr.typeAssert, run_underlying Tryd.underlying134, go_sem, Result.andThen]
theorem ta_fin (n : Int) (w : World) : (Instr.typeAssert (.iface 136 (.agg #[.int .i64 n])) 124 136 true).run Tryd.prog w = .ok (.tuple #[.agg #[.int .i64 n], .bool true]) w := by
  simp [Instr.typeAssert, run_underlying Tryd.underlying136, go_sem, Result.andThen]
theorem ta_bes (v : Value) (w : World) : (Instr.typeAssert (.iface 138 v) 124 138 false).run Tryd.prog w = .ok v w := by
  simp [Instr.typeAssert, run_underlying Tryd.underlying138, go_sem, Result.andThen]
theorem zNum : (Tryd.prog.info? 134).map (·.zero) = some (some (.agg #[.int .i64 0])) := by kernel_rfl
theorem zFin : (Tryd.prog.info? 136).map (·.zero) = some (some (.agg #[.int .i64 0])) := by kernel_rfl
theorem ta_not {t a xT : TypeId} {fs : _} {z : Value} (hu : Tryd.prog.underlying a = some (.struct fs)) (hz : (Tryd.prog.info? a).map (·.zero) = some (some z)) (hne : t ≠ a) (v : Value) (w : World) : (Instr.typeAssert (.iface t v) xT a true).run Tryd.prog w = .ok (.tuple #[z, .bool false]) w := by
  obtain ⟨j, hj, hz'⟩ := Option.map_eq_some_iff.1 hz
  simp [Instr.typeAssert, run_underlying hu, zeroValue, typeInfo, hj, hz', hne, go_sem, Result.andThen]

set_option maxRecDepth 100000 in
set_option maxHeartbeats 4000000 in
theorem dayOf_num (f l n : Int) (f1 : -1000000000 ≤ f) (f2 : f ≤ 1000000000) (n1 : 1 ≤ n) (n2 : n ≤ 31) (w : World) :
    Calls Tryd.prog 70 #[.iface 134 (.agg #[.int .i64 n]), .int .i64 f, .int .i64 l] w fun e w' => e = .returned (.int .i64 (f + n - 1)) ∧ Below w.heap.size w w' := by
  have t1 := ta_num n
  go_enter Tryd.func70, Tryd.ntmps70
  go_wp2
  go_ret
  exact ⟨rfl, (by repeat' (first | assumption | exact Below.refl _ _ | exact Nat.le_refl _ | refine Below.alloc ?_ ?_ _ | (simp; done) | (simp; omega) | omega))⟩

set_option maxRecDepth 100000 in
set_option maxHeartbeats 4000000 in
theorem dayOf_fin (f l d : Int) (f1 : -1000000000 ≤ f) (f2 : f ≤ 1000000000) (l1 : 0 ≤ l) (l2 : l ≤ 31) (d1 : 0 ≤ d) (d2 : d ≤ 6) (w : World) :
    Calls Tryd.prog 70 #[.iface 136 (.agg #[.int .i64 d]), .int .i64 f, .int .i64 l] w fun e w' => e = .returned (.int .i64 (bk (f + l - 1) d)) ∧ Below w.heap.size w w' := by
  have BK : Hid (∀ w : World, Calls Tryd.prog 76 #[.int .i64 (f + l - 1), .int .i64 d] w fun e w' => e = .returned (.int .i64 (bk (f + l - 1) d)) ∧ Below w.heap.size w w') := back_any (f + l - 1) d (by omega) (by omega) d1 d2
  generalize bk (f + l - 1) d = V at *
  have t1 : ∀ w0 : World, (Instr.typeAssert (.iface 136 (.agg #[.int .i64 d])) 124 134 true).run Tryd.prog w0 = .ok (.tuple #[.agg #[.int .i64 0], .bool false]) w0 := ta_not Tryd.underlying134 zNum (by decide) _
  have t2 := ta_fin d
  go_enter Tryd.func70, Tryd.ntmps70
  go_wp2_with fail
  refine (BK.out _).mono ?_
  rintro e w1 ⟨rfl, hb⟩
  go_wp2
  go_ret
  exact ⟨rfl, Below.trans (by repeat' (first | assumption | exact Below.refl _ _ | exact Nat.le_refl _ | refine Below.alloc ?_ ?_ _ | (simp; done) | (simp; omega) | omega)) (hb.mono (by simp; omega))⟩

set_option maxRecDepth 100000 in
set_option maxHeartbeats 4000000 in
theorem dayOf_bes3 (f l d n : Int) (f1 : -1000000000 ≤ f) (f2 : f ≤ 1000000000) (n1 : 1 ≤ n) (n2 : n ≤ 31) (d1 : 0 ≤ d) (d2 : d ≤ 6) (w : World) :
    Calls Tryd.prog 70 #[.iface 138 (.agg #[.int .i64 d, .int .i64 n, .bool true]), .int .i64 f, .int .i64 l] w fun e w' => e = .returned (.int .i64 (bk (f + n - 1) d)) ∧ Below w.heap.size w w' := by
  have BK : Hid (∀ w : World, Calls Tryd.prog 76 #[.int .i64 (f + n - 1), .int .i64 d] w fun e w' => e = .returned (.int .i64 (bk (f + n - 1) d)) ∧ Below w.heap.size w w') := back_any (f + n - 1) d (by omega) (by omega) d1 d2
  generalize bk (f + n - 1) d = V at *
  have t1 : ∀ w0 : World, (Instr.typeAssert (.iface 138 (.agg #[.int .i64 d, .int .i64 n, .bool true])) 124 134 true).run Tryd.prog w0 = .ok (.tuple #[.agg #[.int .i64 0], .bool false]) w0 := ta_not Tryd.underlying134 zNum (by decide) _
  have t2 : ∀ w0 : World, (Instr.typeAssert (.iface 138 (.agg #[.int .i64 d, .int .i64 n, .bool true])) 124 136 true).run Tryd.prog w0 = .ok (.tuple #[.agg #[.int .i64 0], .bool false]) w0 := ta_not Tryd.underlying136 zFin (by decide) _
  have t3 := ta_bes (.agg #[.int .i64 d, .int .i64 n, .bool true])
  go_enter Tryd.func70, Tryd.ntmps70
  go_wp2_with fail
  refine (BK.out _).mono ?_
  rintro e w1 ⟨rfl, hb⟩
  go_wp2
  go_ret
  exact ⟨rfl, Below.trans (by repeat' (first | assumption | exact Below.refl _ _ | exact Nat.le_refl _ | refine Below.alloc ?_ ?_ _ | (simp; done) | (simp; omega) | omega)) (hb.mono (by simp; omega))⟩

set_option maxRecDepth 100000 in
set_option maxHeartbeats 4000000 in
theorem dayOf_bes2 (f l d n : Int) (f1 : -1000000000 ≤ f) (f2 : f ≤ 1000000000) (n1 : 1 ≤ n) (n2 : n ≤ 31) (d1 : 0 ≤ d) (d2 : d ≤ 6) (w : World) :
    Calls Tryd.prog 70 #[.iface 138 (.agg #[.int .i64 d, .int .i64 n, .bool false]), .int .i64 f, .int .i64 l] w fun e w' => e = .returned (.int .i64 (bk (f + n - 1 + 7 - 1) d)) ∧ Below w.heap.size w w' := by
  have BK : Hid (∀ w : World, Calls Tryd.prog 76 #[.int .i64 (f + n - 1 + 7 - 1), .int .i64 d] w fun e w' => e = .returned (.int .i64 (bk (f + n - 1 + 7 - 1) d)) ∧ Below w.heap.size w w') := back_any (f + n - 1 + 7 - 1) d (by omega) (by omega) d1 d2
  generalize bk (f + n - 1 + 7 - 1) d = V at *
  have t1 : ∀ w0 : World, (Instr.typeAssert (.iface 138 (.agg #[.int .i64 d, .int .i64 n, .bool false])) 124 134 true).run Tryd.prog w0 = .ok (.tuple #[.agg #[.int .i64 0], .bool false]) w0 := ta_not Tryd.underlying134 zNum (by decide) _
  have t2 : ∀ w0 : World, (Instr.typeAssert (.iface 138 (.agg #[.int .i64 d, .int .i64 n, .bool false])) 124 136 true).run Tryd.prog w0 = .ok (.tuple #[.agg #[.int .i64 0], .bool false]) w0 := ta_not Tryd.underlying136 zFin (by decide) _
  have t3 := ta_bes (.agg #[.int .i64 d, .int .i64 n, .bool false])
  go_enter Tryd.func70, Tryd.ntmps70
  go_wp2_with fail
  refine (BK.out _).mono ?_
  rintro e w1 ⟨rfl, hb⟩
  go_wp2
  go_ret
  exact ⟨rfl, Below.trans (by repeat' (first | assumption | exact Below.refl _ _ | exact Nat.le_refl _ | refine Below.alloc ?_ ?_ _ | (simp; done) | (simp; omega) | omega)) (hb.mono (by simp; omega))⟩

theorem dayOf_any (f l k d n : Int) (h : okOn k d n) (f1 : -1000000000 ≤ f) (f2 : f ≤ 1000000000) (l1 : 0 ≤ l) (l2 : l ≤ 31) (w : World) :
    Calls Tryd.prog 70 #[formV k d n, .int .i64 f, .int .i64 l] w fun e w' => e = .returned (.int .i64 (dayN f l k d n)) ∧ Below w.heap.size w w' := by
  rcases h with ⟨rfl, h1, h2, rfl⟩ | ⟨rfl, h1, h2, rfl⟩ | ⟨rfl | rfl, h1, h2, h3, h4⟩
  · exact dayOf_num f l n f1 f2 h1 h2 w
  · exact dayOf_fin f l d f1 f2 l1 l2 h1 h2 w
  · exact dayOf_bes2 f l d n f1 f2 h3 h4 h1 h2 w
  · exact dayOf_bes3 f l d n f1 f2 h3 h4 h1 h2 w

end Go.Proofs.YtcgcljfdfimfgaaDoor
/- Contracts: when.Day and the reference's Day, whole. -/
namespace Go.Proofs.YtcgcljfdfimfgaaDoor
open Go.RowKit
set_option linter.unusedVariables false

def dyA (m k d n : Int) : Prop := okOn k d n ∧ 1 ≤ m ∧ m ≤ 12
instance (m k d n : Int) : Decidable (dyA m k d n) := by unfold dyA; infer_instance
def dyY (y : Int) : Prop := -4718 < y ∧ y < 294282
instance (y : Int) : Decidable (dyY y) := by unfold dyY; infer_instance
/-- the month's first day. -/
def fst1 (y m : Int) : Int := Cv.S y + Cv.cum y m
/-- which day it is, and what is wrong. -/
def dyV (y m k d n : Int) : Int := if dyA m k d n then (if dyY y then dayN (fst1 y m) (Cv.len y m) k d n else 0) else 0
def dyE (y m k d n : Int) : Int := if dyA m k d n then (if dyY y then 0 else 10) else 1

theorem first_right {y m : Int} (hy : dyY y) (h1 : 1 ≤ m) (h2 : m ≤ 12) : Cvl.right y m 1 = true := by
  have l := Cv.len_01 y m h1 h2
  unfold dyY at hy
  exact Cvl.right_yes (by omega)
theorem fst1_bd {y m : Int} (hy : dyY y) (h1 : 1 ≤ m) (h2 : m ≤ 12) : -1000000000 ≤ fst1 y m - 1000 ∧ fst1 y m + 1000 ≤ 1000000000 := by
  unfold dyY at hy
  have c := Cv.cum_bd y m
  unfold fst1 Cv.S
  omega

set_option maxRecDepth 100000 in
set_option maxHeartbeats 4000000 in
theorem day_arg (y m k d n : Int) (f : Value) (hf : f = .nilIface ∨ ∃ t v, f = .iface t v)
    (F : Hid (∀ w : World, Calls Tryd.prog 68 #[onV k d n] w fun e w' => e = .returned f ∧ Below w.heap.size w w')) (h : f = .nilIface ∨ m < 1 ∨ 12 < m) (w : World) :
    Calls Tryd.prog 65 #[.int .i64 y, .int .i64 m, onV k d n] w fun e w' => e = .returned (.tuple #[.int .i64 0, .int .i64 1]) ∧ Below w.heap.size w w' := by
  unfold onV at *
  have HB : Hid (Below w.heap.size w (w.alloc (.cells #[.int .i64 k, .int .i64 d, .int .i64 n] 39))) := (Below.refl _ _).alloc (Nat.le_refl _) _
  rcases hf with rfl | ⟨t, v, rfl⟩
  · clear h
    go_enter Tryd.func65, Tryd.ntmps65
    go_wp2_with fail
    refine (F.out _).mono ?_
    rintro e w1 ⟨rfl, hb⟩
    have HB1 : Hid (Below w.heap.size w w1) := HB.out.trans (hb.mono HB.out.size)
    clear hb
    go_wp2
    go_ret2
    exact ⟨rfl, HB1.out⟩
  · have h' : m < 1 ∨ 12 < m := h.resolve_left (fun e => by cases e)
    clear h
    rcases h' with h | h
    · go_enter Tryd.func65, Tryd.ntmps65
      go_wp2_with fail
      refine (F.out _).mono ?_
      rintro e w1 ⟨rfl, hb⟩
      have HB1 : Hid (Below w.heap.size w w1) := HB.out.trans (hb.mono HB.out.size)
      clear hb
      go_wp2
      go_ret2
      exact ⟨rfl, HB1.out⟩
    · have h2 : ¬ m < 1 := by omega
      go_enter Tryd.func65, Tryd.ntmps65
      go_wp2_with fail
      refine (F.out _).mono ?_
      rintro e w1 ⟨rfl, hb⟩
      have HB1 : Hid (Below w.heap.size w w1) := HB.out.trans (hb.mono HB.out.size)
      clear hb
      go_wp2
      go_ret2
      exact ⟨rfl, HB1.out⟩

set_option maxRecDepth 100000 in
set_option maxHeartbeats 4000000 in
theorem day_range (y m k d n : Int) (t : TypeId) (v : Value)
    (F : Hid (∀ w : World, Calls Tryd.prog 68 #[onV k d n] w fun e w' => e = .returned (.iface t v) ∧ Below w.heap.size w w')) (h1 : ¬ m < 1) (h2 : ¬ 12 < m) (h : y ≤ -4718 ∨ 294282 ≤ y) (w : World) :
    Calls Tryd.prog 65 #[.int .i64 y, .int .i64 m, onV k d n] w fun e w' => e = .returned (.tuple #[.int .i64 0, .int .i64 10]) ∧ Below w.heap.size w w' := by
  unfold onV at *
  have HB : Hid (Below w.heap.size w (w.alloc (.cells #[.int .i64 k, .int .i64 d, .int .i64 n] 39))) := (Below.refl _ _).alloc (Nat.le_refl _) _
  rcases h with h | h
  · go_enter Tryd.func65, Tryd.ntmps65
    go_wp2_with fail
    refine (F.out _).mono ?_
    rintro e w1 ⟨rfl, hb⟩
    have HB1 : Hid (Below w.heap.size w w1) := HB.out.trans (hb.mono HB.out.size)
    clear hb
    go_wp2
    go_ret2
    exact ⟨rfl, HB1.out⟩
  · have h3 : ¬ y ≤ -4718 := by omega
    go_enter Tryd.func65, Tryd.ntmps65
    go_wp2_with fail
    refine (F.out _).mono ?_
    rintro e w1 ⟨rfl, hb⟩
    have HB1 : Hid (Below w.heap.size w w1) := HB.out.trans (hb.mono HB.out.size)
    clear hb
    go_wp2
    go_ret2
    exact ⟨rfl, HB1.out⟩

theorem Lens_below {w w' : World} {b : Nat} (h : Cvl.Lens w) (hb : Below b w w') (h0 : 1 < b) : Cvl.Lens w' := fun i hi => (hb.cell (p := ⟨1, i, none⟩) h0).trans (h i hi)
theorem Lens_lt {w : World} (h : Cvl.Lens w) : 1 < w.heap.size := by
  have := h 0 (by decide)
  by_cases hlt : 1 < w.heap.size
  · exact hlt
  · have e : w.heap[1]? = none := Array.getElem?_eq_none (by omega)
    simp [World.cell?, e] at this

set_option maxRecDepth 100000 in
set_option maxHeartbeats 4000000 in
theorem day_good (y m k d n F L V : Int) (t : TypeId) (v : Value)
    (FO : Hid (∀ w : World, Calls Tryd.prog 68 #[onV k d n] w fun e w' => e = .returned (.iface t v) ∧ Below w.heap.size w w'))
    (DY : Hid (∀ w : World, Cvl.Lens w → Calls Tryd.prog 69 #[.int .i64 y, .int .i64 m, .int .i64 1] w fun e w' => e = .returned (.tuple #[.int .i64 F, .int .i64 0]) ∧ w' = w))
    (LN : Hid (∀ w : World, Cvl.Lens w → Calls Tryd.prog 52 #[.int .i64 y, .int .i64 m] w fun e w' => e = .returned (.int .i64 L) ∧ w' = w))
    (DO : Hid (∀ w : World, Calls Tryd.prog 70 #[.iface t v, .int .i64 F, .int .i64 L] w fun e w' => e = .returned (.int .i64 V) ∧ Below w.heap.size w w'))
    (h1 : ¬ m < 1) (h2 : ¬ 12 < m) (h3 : ¬ y ≤ -4718) (h4 : ¬ 294282 ≤ y) (w : World) (hL : Hid (Cvl.Lens w)) :
    Calls Tryd.prog 65 #[.int .i64 y, .int .i64 m, onV k d n] w fun e w' => e = .returned (.tuple #[.int .i64 V, .int .i64 0]) ∧ Below w.heap.size w w' := by
  unfold onV at *
  have HB : Hid (Below w.heap.size w (w.alloc (.cells #[.int .i64 k, .int .i64 d, .int .i64 n] 39))) := (Below.refl _ _).alloc (Nat.le_refl _) _
  go_enter Tryd.func65, Tryd.ntmps65
  go_wp2_with fail
  refine (FO.out _).mono ?_
  rintro e w1 ⟨rfl, hb⟩
  have HB1 : Hid (Below w.heap.size w w1) := HB.out.trans (hb.mono HB.out.size)
  have HL1 : Hid (Cvl.Lens w1) := Lens_below hL.out HB1.out (Lens_lt hL.out)
  clear hb
  go_wp2_with fail
  refine (DY.out _ HL1.out).mono ?_
  rintro e w2 ⟨rfl, rfl⟩
  go_wp2_with fail
  refine (LN.out _ HL1.out).mono ?_
  rintro e w3 ⟨rfl, rfl⟩
  go_wp2_with fail
  refine (DO.out _).mono ?_
  rintro e w4 ⟨rfl, hb⟩
  have HB2 : Hid (Below w.heap.size w w4) := HB1.out.trans (hb.mono HB1.out.size)
  clear hb
  go_wp2
  go_ret2
  exact ⟨rfl, HB2.out⟩

theorem formV_is (k d n : Int) : ∃ t v, formV k d n = .iface t v := by
  unfold formV
  split
  · exact ⟨_, _, rfl⟩
  · split <;> exact ⟨_, _, rfl⟩

theorem day_any (y m k d n : Int) (w : World) (hL : Cvl.Lens w) :
    Calls Tryd.prog 65 #[.int .i64 y, .int .i64 m, onV k d n] w fun e w' => e = .returned (.tuple #[.int .i64 (dyV y m k d n), .int .i64 (dyE y m k d n)]) ∧ Below w.heap.size w w' := by
  unfold dyV dyE
  by_cases ho : okOn k d n
  · obtain ⟨t, v, hv⟩ := formV_is k d n
    have FO := formOf_yes k d n ho
    rw [hv] at FO
    by_cases hm : 1 ≤ m ∧ m ≤ 12
    · have ha : dyA m k d n := ⟨ho, hm.1, hm.2⟩
      rw [if_pos ha, if_pos ha]
      by_cases hy : dyY y
      · rw [if_pos hy, if_pos hy]
        have bd := fst1_bd hy hm.1 hm.2
        have lb := Cv.len_bd y m
        have DO := dayOf_any (fst1 y m) (Cv.len y m) k d n ho (by omega) (by omega) lb.1 lb.2
        rw [hv] at DO
        unfold dyY at hy
        refine day_good y m k d n (fst1 y m) (Cv.len y m) _ t v FO (fun w hw => ?_) (fun w hw => Cvl.len_any y m w hw) DO (by omega) (by omega) (by omega) (by omega) w hL
        have R := Cvl.days_yes y m 1 (first_right (y := y) hy hm.1 hm.2) w hw
        rw [show Cv.S y + Cv.cum y m + 1 - 1 = fst1 y m by unfold fst1; omega] at R
        exact R
      · rw [if_neg hy, if_neg hy]
        unfold dyY at hy
        exact day_range y m k d n t v FO (by omega) (by omega) (by omega) w
    · have ha : ¬ dyA m k d n := fun q => hm q.2
      rw [if_neg ha, if_neg ha]
      exact day_arg y m k d n _ (.inr ⟨t, v, rfl⟩) FO (by omega) w
  · have ha : ¬ dyA m k d n := fun q => ho q.1
    rw [if_neg ha, if_neg ha]
    exact day_arg y m k d n _ (.inl rfl) (formOf_no k d n ho) (.inl rfl) w

end Go.Proofs.YtcgcljfdfimfgaaDoor
/- Contracts: the reference's Day, whole. -/
namespace Go.Proofs.YtcgcljfdfimfgaaDoor
open Go.RowKit
set_option linter.unusedVariables false

end Go.Proofs.YtcgcljfdfimfgaaDoor
/- Contracts: fire.Instant, fire.YearAt, foot.apart, and the reference's. -/
namespace Go.Proofs.YtcgcljfdfimfgaaDoor.Fn
open Go.RowKit
set_option linter.unusedVariables false

/-- the instant of so many seconds of a day by a clock. -/
def inst (d s k o v : Int) : Int := if k = 117 then (d + 10957) * 86400 + s else if k = 115 then (d + 10957) * 86400 + s - o else (d + 10957) * 86400 + s - o - v

set_option maxHeartbeats 1000000 in
theorem inst_any (d s k o v : Int) (d1 : -1000000000 ≤ d) (d2 : d ≤ 1000000000) (s1 : 0 ≤ s) (s2 : s ≤ 86400) (o1 : -50400 ≤ o) (o2 : o ≤ 50400) (v1 : 0 ≤ v) (v2 : v ≤ 7200) (w : World) :
    Calls Tryd.prog 79 #[.int .i64 d, .int .i64 s, .int .u8 k, .int .i64 o, .int .i64 v] w fun e w' => e = .returned (.int .i64 (inst d s k o v)) ∧ w' = w := by
  by_cases h1 : k = 117
  · subst h1
    go_enter Tryd.func79, Tryd.ntmps79
    go_wp2
    go_ret
    exact ⟨Cvl.ret_int (by unfold inst; simp), rfl⟩
  · by_cases h2 : k = 115
    · subst h2
      go_enter Tryd.func79, Tryd.ntmps79
      go_wp2
      go_ret
      exact ⟨Cvl.ret_int (by unfold inst; simp), rfl⟩
    · go_enter Tryd.func79, Tryd.ntmps79
      go_wp2
      go_ret
      exact ⟨Cvl.ret_int (by unfold inst; rw [if_neg h1, if_neg h2]), rfl⟩

/-- the year of an instant. -/
def YAt (t y : Int) : Prop :=
  (Cvl.can (t / 86400 - 10957) = true ∧ Cv.S y ≤ t / 86400 - 10957 ∧ t / 86400 - 10957 < Cv.S (y + 1)) ∨ (Cvl.can (t / 86400 - 10957) = false ∧ t < 0 ∧ y = -4718) ∨ (Cvl.can (t / 86400 - 10957) = false ∧ 0 ≤ t ∧ y = 294282)

theorem yat_is (t : Int) : ∃ y, YAt t y := by
  cases h : Cvl.can (t / 86400 - 10957)
  · by_cases h0 : t < 0
    · exact ⟨_, .inr (.inl ⟨h, h0, rfl⟩)⟩
    · exact ⟨_, .inr (.inr ⟨h, by omega, rfl⟩)⟩
  · obtain ⟨y, h1, h2⟩ := Cv.year_is (t / 86400 - 10957)
    exact ⟨y, .inl ⟨h, h1, h2⟩⟩

set_option maxHeartbeats 4000000 in
theorem yat_run (t q y : Int) (ms : Value) (ds : Value) (er : Int) (h1 : -9223372036854775808 ≤ t) (h2 : t ≤ 9223372036854775807) (hq : q = t / 86400)
    (D : Hid (∀ w : World, Cvl.Lens w → Calls Tryd.prog 43 #[.int .i64 (q - 10957)] w fun e w' => e = .returned (.tuple #[.int .i64 y, ms, ds, .int .i64 er]) ∧ w' = w))
    (x : Int) (hx : (er = 0 ∧ x = y) ∨ (er = 10 ∧ t < 0 ∧ x = -4718) ∨ (er = 10 ∧ 0 ≤ t ∧ x = 294282)) (w : World) (hL : Hid (Cvl.Lens w)) :
    Calls Tryd.prog 40 #[.int .i64 t] w fun e w' => e = .returned (.int .i64 x) ∧ w' = w := by
  have q1 : -200000000000000 ≤ q := by omega
  have q2 : q ≤ 200000000000000 := by omega
  by_cases hm : t.tmod 86400 < 0
  · have e1 := Cvl.div_down (a := t) (b := 86400) (by decide) hm
    have e2 : t.tdiv 86400 = q + 1 := by omega
    clear e1 hq
    rcases hx with ⟨rfl, rfl⟩ | ⟨rfl, h0, rfl⟩ | ⟨rfl, h0, rfl⟩
    · go_enter Tryd.func40, Tryd.ntmps40
      go_wp2_with fail
      refine (D.out _ hL.out).mono ?_
      rintro e w1 ⟨rfl, rfl⟩
      go_wp2
      go_ret
      exact ⟨rfl, rfl⟩
    · go_enter Tryd.func40, Tryd.ntmps40
      go_wp2_with fail
      refine (D.out _ hL.out).mono ?_
      rintro e w1 ⟨rfl, rfl⟩
      go_wp2
      go_ret
      exact ⟨rfl, rfl⟩
    · have h0' : ¬ t < 0 := by omega
      exact absurd hm (by have := Int.tmod_nonneg 86400 h0; omega)
  · have e1 := Cvl.div_same (a := t) (b := 86400) (by decide) hm
    have e2 : t.tdiv 86400 = q := by omega
    clear e1 hq
    rcases hx with ⟨rfl, rfl⟩ | ⟨rfl, h0, rfl⟩ | ⟨rfl, h0, rfl⟩
    · go_enter Tryd.func40, Tryd.ntmps40
      go_wp2_with fail
      refine (D.out _ hL.out).mono ?_
      rintro e w1 ⟨rfl, rfl⟩
      go_wp2
      go_ret
      exact ⟨rfl, rfl⟩
    · go_enter Tryd.func40, Tryd.ntmps40
      go_wp2_with fail
      refine (D.out _ hL.out).mono ?_
      rintro e w1 ⟨rfl, rfl⟩
      go_wp2
      go_ret
      exact ⟨rfl, rfl⟩
    · have h0' : ¬ t < 0 := by omega
      go_enter Tryd.func40, Tryd.ntmps40
      go_wp2_with fail
      refine (D.out _ hL.out).mono ?_
      rintro e w1 ⟨rfl, rfl⟩
      go_wp2
      go_ret
      exact ⟨rfl, rfl⟩

theorem yat_any (t y : Int) (h : YAt t y) (h1 : -9223372036854775808 ≤ t) (h2 : t ≤ 9223372036854775807) (w : World) (hL : Cvl.Lens w) :
    Calls Tryd.prog 40 #[.int .i64 t] w fun e w' => e = .returned (.int .i64 y) ∧ w' = w := by
  rcases h with ⟨a, b, c⟩ | ⟨a, b, c⟩ | ⟨a, b, c⟩
  · obtain ⟨y', m, d, hd⟩ := Cv.is_date (t / 86400 - 10957)
    obtain ⟨i1, i2⟩ := Cv.is_year hd
    obtain rfl := Cv.year_one b c i1 i2
    exact yat_run t (t / 86400) y (.int .i64 m) (.int .i64 d) 0 h1 h2 rfl (fun w hw => Cvl.date_yes _ y m d a hd w hw) y (.inl ⟨rfl, rfl⟩) w hL
  · exact yat_run t (t / 86400) 0 (.int .i64 0) (.int .i64 0) 10 h1 h2 rfl (fun w hw => Cvl.date_no _ a w) y (.inr (.inl ⟨rfl, b, c⟩)) w hL
  · exact yat_run t (t / 86400) 0 (.int .i64 0) (.int .i64 0) 10 h1 h2 rfl (fun w hw => Cvl.date_no _ a w) y (.inr (.inr ⟨rfl, b, c⟩)) w hL

/-- months that are far enough from each other. -/
def far (m n : Int) : Bool := decide (2 ≤ (if n ≤ m then m - n else n - m) ∧ (if n ≤ m then m - n else n - m) ≤ 10)

set_option maxHeartbeats 1000000 in
theorem apart_any (m n : Int) (m1 : 1 ≤ m) (m2 : m ≤ 12) (n1 : 1 ≤ n) (n2 : n ≤ 12) (w : World) :
    Calls Tryd.prog 61 #[.int .i64 m, .int .i64 n] w fun e w' => e = .returned (.bool (far m n)) ∧ w' = w := by
  go_enter Tryd.func61, Tryd.ntmps61
  go_wp2
  all_goals go_ret
  all_goals refine ⟨Cvl.ret_bool ?_, rfl⟩
  all_goals unfold far
  all_goals first | exact (decide_eq_false (by split <;> omega)).symm | exact decide_eq_decide.2 (by split <;> omega)

end Go.Proofs.YtcgcljfdfimfgaaDoor.Fn
/- Contracts of clock.belowSixty, clock.Make, clock.Parts, and the reference's Make and Parts: each answers the plain number, for every argument. -/
namespace Go.Proofs.YtcgcljfdfimfgaaDoor.Clk
open Go.RowKit
set_option linter.unusedVariables false

theorem ret_bool {a b : Bool} (h : a = b) : Ending.returned (.bool a) = .returned (.bool b) := by rw [h]
/-- can these parts be a time of a day? -/
def mkOk (h m s us : Int) : Prop := 0 ≤ h ∧ h ≤ 24 ∧ 0 ≤ m ∧ m ≤ 59 ∧ 0 ≤ s ∧ s ≤ 59 ∧ 0 ≤ us ∧ us ≤ 999999 ∧ h * 3600000000 + m * 60000000 + s * 1000000 + us ≤ 86400000000
instance (h m s us : Int) : Decidable (mkOk h m s us) := by unfold mkOk; infer_instance
end Go.Proofs.YtcgcljfdfimfgaaDoor.Clk
/- Contracts of clock.Parts and the reference's Parts: hours, minutes, seconds, microseconds. -/
namespace Go.Proofs.YtcgcljfdfimfgaaDoor.Clk
open Go.RowKit
set_option linter.unusedVariables false

set_option maxHeartbeats 1000000 in
theorem parts_in (t H M S U a b : Int) (h1 : 0 ≤ t) (h2 : t ≤ 86400000000) (e1 : t.tdiv 3600000000 = H) (e2 : t.tdiv 60000000 = a) (e3 : a.tmod 60 = M) (e4 : t.tdiv 1000000 = b) (e5 : b.tmod 60 = S) (e6 : t.tmod 1000000 = U)
    (k1 : 0 ≤ H) (k2 : H ≤ 24) (k3 : 0 ≤ a) (k4 : a ≤ 1440) (k5 : 0 ≤ b) (k6 : b ≤ 86400) (w : World) :
    Calls Tryd.prog 71 #[.int .i64 t] w fun e w' => e = .returned (.tuple #[.int .i64 H, .int .i64 M, .int .i64 S, .int .i64 U, .int .i64 0]) ∧ w' = w := by
  have h3 : ¬ t < 0 := by omega
  have h4 : ¬ 86400000000 < t := by omega
  go_enter Tryd.func71, Tryd.ntmps71
  go_wp2
  exact bodyPost_ret (v := .tuple #[.int .i64 H, .int .i64 M, .int .i64 S, .int .i64 U, .int .i64 0]) (by simp [results, Tryd.results71, go_sem]) rfl ⟨rfl, rfl⟩

/-- a time of a day? -/
def isT (t : Int) : Prop := 0 ≤ t ∧ t ≤ 86400000000
instance (t : Int) : Decidable (isT t) := by unfold isT; infer_instance
end Go.Proofs.YtcgcljfdfimfgaaDoor.Clk
/- Contracts of clock.Two, clock.Fraction, clock.face, clock.Text: numbers of two digits, what stands behind the seconds, a time as a text. -/
namespace Go.Proofs.YtcgcljfdfimfgaaDoor.Clk
open Go.RowKit
set_option linter.unusedVariables false

/-- the table of the powers of ten lies as it must. -/
def Tab (w : World) : Prop := Lib.TabIs Tryd.prog w "internal/strconv.uint64pow10" .u64 Lib.pow10Tab
theorem Tab.below {w w1 : World} (h : Tab w) (hb : Below w.heap.size w w1) : Tab w1 := Lib.tabBelow_of_tabIs h w1 hb

theorem formatInt_any (n : Int) (h0 : -9223372036854775808 ≤ n) (h1 : n ≤ 9223372036854775807) (w : World) (hT : Tab w) :
    Calls Tryd.prog 72 #[.int .i64 n, .int .i64 10] w fun e w' => e = .returned (.string ⟨(Lib.itoa n).toArray⟩) ∧ Below w.heap.size w w' :=
  (Tryd.strconv_FormatInt_10 n h0 h1 w hT).mono fun e w' ⟨he, k, os, hw⟩ => ⟨he, hw ▸ Lib.below_grow w.heap.size w (Nat.le_refl _) k os⟩

/-- the decimal digits of a number, without its sign. -/
def dgB (n : Int) : ByteArray := ⟨(Lib.decDigits n.natAbs).toArray⟩
theorem nDigits_le {u : Nat} (h : u < 10000000000000000000) : Lib.nDigits u ≤ 19 := by
  have g : ∀ k v : Nat, v < 10 ^ k → 1 ≤ k → Lib.nDigits v ≤ k := by
    intro k
    induction k with
    | zero => intro v _ h1; omega
    | succ k ih =>
      intro v hv _
      by_cases h10 : v < 10
      · rw [Lib.nDigits_small h10]; omega
      · rw [Lib.nDigits_big h10]
        have hp : (10 : Nat) ^ (k + 1) = 10 ^ k * 10 := Nat.pow_succ ..
        have : v / 10 < 10 ^ k := by omega
        have hk : 1 ≤ k := by
          cases k with
          | zero => simp at this; omega
          | succ k => omega
        have := ih (v / 10) this hk
        omega
  exact g 19 u (by simpa using h) (by decide)
theorem dgB_size {n : Int} (h0 : -9223372036854775808 ≤ n) (h1 : n ≤ 9223372036854775807) : (dgB n).size ≤ 19 := by
  have : (dgB n).size = (Lib.decDigits n.natAbs).length := rfl
  rw [this, Lib.decDigits_length]
  exact nDigits_le (by omega)
theorem digit_head (u : Nat) : ∃ c l, Lib.decDigits u = c :: l ∧ c ≠ 45 := by
  have h := Lib.decDigits_eq u
  have hp := Lib.nDigits_pos u
  obtain ⟨k, hk⟩ : ∃ k, Lib.nDigits u = k + 1 := ⟨Lib.nDigits u - 1, by omega⟩
  rw [hk] at h
  rw [List.range_succ_eq_map] at h
  refine ⟨_, _, h, ?_⟩
  unfold Lib.dg
  have : ∀ d : Fin 10, UInt8.ofNat (48 + d.val) ≠ 45 := by decide
  exact this ⟨_, Nat.mod_lt _ (by decide)⟩
theorem cut_itoa (n : Int) : Lib.trimPrefix (Lib.itoa n) [45] = Lib.decDigits n.natAbs ∧ Lib.hasPrefix (Lib.itoa n) [45] = decide (n < 0) := by
  unfold Lib.itoa
  by_cases h : n < 0
  · rw [if_pos h, decide_eq_true h]
    exact ⟨rfl, rfl⟩
  · rw [if_neg h, decide_eq_false h]
    obtain ⟨c, l, hc, hn⟩ := digit_head n.toNat
    have e : n.natAbs = n.toNat := by omega
    rw [e, hc]
    have hp : Lib.hasPrefix (c :: l) [45] = false := by
      unfold Lib.hasPrefix
      simp only [List.isPrefixOf, Bool.and_eq_false_iff, beq_eq_false_iff_ne]
      exact .inl (fun k => hn k.symm)
    unfold Lib.trimPrefix
    rw [hp]
    exact ⟨rfl, rfl⟩

/-- two digits at least. -/
def padB (d : ByteArray) : ByteArray := if d.size < 2 then ⟨#[48]⟩ ++ d else d
def twoB (n : Int) : ByteArray := if n < 0 then ⟨#[45]⟩ ++ padB (dgB n) else padB (dgB n)
theorem padB_size (d : ByteArray) : (padB d).size ≤ d.size + 1 := by
  unfold padB
  split
  · rw [ByteArray.size_append]; show 1 + d.size ≤ _; omega
  · omega
theorem twoB_size {n : Int} (h0 : -9223372036854775808 ≤ n) (h1 : n ≤ 9223372036854775807) : (twoB n).size ≤ 21 := by
  have a := dgB_size h0 h1
  have b := padB_size (dgB n)
  unfold twoB
  split
  · rw [ByteArray.size_append]; show 1 + (padB (dgB n)).size ≤ _; omega
  · omega

set_option maxRecDepth 100000 in
set_option maxHeartbeats 1000000 in
theorem two_core (n : Int) (S D : ByteArray) (b : Bool) (hD : D.size ≤ 19)
    (H1 : Hid (∀ w : World, Tab w → Calls Tryd.prog 72 #[.int .i64 n, .int .i64 10] w fun e w' => e = .returned (.string S) ∧ Below w.heap.size w w'))
    (H2 : Hid (∀ w : World, Calls Tryd.prog 78 #[.string S, .string ⟨#[45]⟩] w fun e w' => e = .returned (.tuple #[.string D, .bool b]) ∧ w' = w))
    (w : World) (hT : Hid (Tab w)) :
    Calls Tryd.prog 73 #[.int .i64 n] w fun e w' => e = .returned (.string (if b then ⟨#[45]⟩ ++ padB D else padB D)) ∧ Below w.heap.size w w' := by
  by_cases hs : D.size < 2
  · have hs' : (D.size : Int) < 2 := by omega
    have hp : Hid (padB D = ⟨#[48]⟩ ++ D) := if_pos hs
    cases b
    all_goals
      go_enter Tryd.func73, Tryd.ntmps73
      go_wp2_with fail
      refine (H1.out _ hT.out).mono ?_
      rintro e w1 ⟨rfl, hb⟩
      go_wp2_with fail
      refine (H2.out _).mono ?_
      rintro e w2 ⟨rfl, rfl⟩
      go_wp2
      go_ret
      exact ⟨by rw [hp.out]; rfl, hb⟩
  · have hs' : ¬ (D.size : Int) < 2 := by omega
    have hp : Hid (padB D = D) := if_neg hs
    cases b
    all_goals
      go_enter Tryd.func73, Tryd.ntmps73
      go_wp2_with fail
      refine (H1.out _ hT.out).mono ?_
      rintro e w1 ⟨rfl, hb⟩
      go_wp2_with fail
      refine (H2.out _).mono ?_
      rintro e w2 ⟨rfl, rfl⟩
      go_wp2
      go_ret
      exact ⟨by rw [hp.out]; rfl, hb⟩

theorem two_any (n : Int) (h0 : -9223372036854775808 ≤ n) (h1 : n ≤ 9223372036854775807) (w : World) (hT : Tab w) :
    Calls Tryd.prog 73 #[.int .i64 n] w fun e w' => e = .returned (.string (twoB n)) ∧ Below w.heap.size w w' := by
  have H2 : ∀ w : World, Calls Tryd.prog 78 #[.string ⟨(Lib.itoa n).toArray⟩, .string ⟨#[45]⟩] w fun e w' => e = .returned (.tuple #[.string (dgB n), .bool (decide (n < 0))]) ∧ w' = w := fun w => by
    have h := Tryd.strings_CutPrefix ⟨(Lib.itoa n).toArray⟩ ⟨#[45]⟩ w
    have e : (⟨(Lib.itoa n).toArray⟩ : ByteArray).data.toList = Lib.itoa n := rfl
    rw [e, show (⟨#[45]⟩ : ByteArray).data.toList = [45] from rfl, (cut_itoa n).1, (cut_itoa n).2] at h
    exact h
  have R := two_core n _ _ _ (dgB_size h0 h1) (fun w h => formatInt_any n h0 h1 w h) H2 w hT
  unfold twoB
  by_cases h : n < 0
  · rw [if_pos h]; rw [decide_eq_true h] at R; exact R
  · rw [if_neg h]; rw [decide_eq_false h] at R; exact R

end Go.Proofs.YtcgcljfdfimfgaaDoor.Clk
/- A small number's text, by strconv.FormatInt. -/
namespace Go.Proofs.YtcgcljfdfimfgaaDoor
open Go.RowKit
set_option linter.unusedVariables false

theorem sizeL (l : List UInt8) : (⟨l.toArray⟩ : ByteArray).size = l.length := by simp [ByteArray.size]
def digB (n : Int) : ByteArray := ⟨(Lib.itoa n).toArray⟩
theorem itoa_nat (i : Nat) : Lib.itoa (i : Int) = Lib.decDigits i := by unfold Lib.itoa; rw [if_neg (by omega)]; simp
theorem format_small (n : Int) (h0 : 0 ≤ n) (h1 : n < 100) (w : World) : Calls Tryd.prog 72 #[.int .i64 n, .int .i64 10] w fun e w' => e = .returned (.string (digB n)) ∧ w' = w := by
  obtain ⟨i, rfl⟩ : ∃ i : Nat, n = (i : Int) := ⟨n.toNat, by omega⟩
  have R := Tryd.strconv_FormatInt_10_small i (by omega) w
  unfold digB
  rw [itoa_nat]
  exact R
theorem digB_size (n : Int) (h0 : 0 ≤ n) (h1 : n < 100) : (digB n).size ≤ 21 := by
  have := Lib.itoa_length_le n (by omega) (by omega)
  unfold digB
  rw [sizeL]
  omega

end Go.Proofs.YtcgcljfdfimfgaaDoor
