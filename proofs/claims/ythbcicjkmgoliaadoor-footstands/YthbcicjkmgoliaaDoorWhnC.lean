/- Contracts: when.Day and the reference's Day, whole. -/
import Derived.Test.YthbcicjkmgoliaaDoorWhnB
namespace Go.Proofs.YthbcicjkmgoliaaDoor
open Go.RowKit
set_option linter.unusedVariables false

def dyA (m k d n : Int) : Prop := okOn k d n ∧ 1 ≤ m ∧ m ≤ 12
instance (m k d n : Int) : Decidable (dyA m k d n) := by unfold dyA; infer_instance
def dyY (y : Int) : Prop := -4718 < y ∧ y < 294282
instance (y : Int) : Decidable (dyY y) := by unfold dyY; infer_instance
/-- the month's first day. -/
def fst1 (y m : Int) : Int := Cv.S y + Cv.cum y m
/-- which day it is, and what is wrong. -/
def dyV (y m k d n : Int) : Int := if dyA m k d n then (if dyY y then dayN (fst1 y m) (Cv.len y m) k d n else 0) else 0
def dyE (y m k d n : Int) : Int := if dyA m k d n then (if dyY y then 0 else 10) else 1

theorem first_right {y m : Int} (hy : dyY y) (h1 : 1 ≤ m) (h2 : m ≤ 12) : Cvl.right y m 1 = true := by
  have l := Cv.len_01 y m h1 h2
  unfold dyY at hy
  exact Cvl.right_yes (by omega)
theorem fst1_bd {y m : Int} (hy : dyY y) (h1 : 1 ≤ m) (h2 : m ≤ 12) : -1000000000 ≤ fst1 y m - 1000 ∧ fst1 y m + 1000 ≤ 1000000000 := by
  unfold dyY at hy
  have c := Cv.cum_bd y m
  unfold fst1 Cv.S
  omega

set_option maxRecDepth 100000 in
set_option maxHeartbeats 4000000 in
theorem day_arg (y m k d n : Int) (f : Value) (hf : f = .nilIface ∨ ∃ t v, f = .iface t v)
    (F : Hid (∀ w : World, Calls Tryd.prog 48 #[onV k d n] w fun e w' => e = .returned f ∧ Below w.heap.size w w')) (h : f = .nilIface ∨ m < 1 ∨ 12 < m) (w : World) :
    Calls Tryd.prog 37 #[.int .i64 y, .int .i64 m, onV k d n] w fun e w' => e = .returned (.tuple #[.int .i64 0, .int .i64 1]) ∧ Below w.heap.size w w' := by
  unfold onV at *
  have HB : Hid (Below w.heap.size w (w.alloc (.cells #[.int .i64 k, .int .i64 d, .int .i64 n] 34))) := (Below.refl _ _).alloc (Nat.le_refl _) _
  rcases hf with rfl | ⟨t, v, rfl⟩
  · clear h
    go_enter Tryd.func37, Tryd.ntmps37
    go_wp2_with fail
    refine (F.out _).mono ?_
    rintro e w1 ⟨rfl, hb⟩
    have HB1 : Hid (Below w.heap.size w w1) := HB.out.trans (hb.mono HB.out.size)
    clear hb
    go_wp2
    go_ret2
    exact ⟨rfl, HB1.out⟩
  · have h' : m < 1 ∨ 12 < m := h.resolve_left (fun e => by cases e)
    clear h
    rcases h' with h | h
    · go_enter Tryd.func37, Tryd.ntmps37
      go_wp2_with fail
      refine (F.out _).mono ?_
      rintro e w1 ⟨rfl, hb⟩
      have HB1 : Hid (Below w.heap.size w w1) := HB.out.trans (hb.mono HB.out.size)
      clear hb
      go_wp2
      go_ret2
      exact ⟨rfl, HB1.out⟩
    · have h2 : ¬ m < 1 := by omega
      go_enter Tryd.func37, Tryd.ntmps37
      go_wp2_with fail
      refine (F.out _).mono ?_
      rintro e w1 ⟨rfl, hb⟩
      have HB1 : Hid (Below w.heap.size w w1) := HB.out.trans (hb.mono HB.out.size)
      clear hb
      go_wp2
      go_ret2
      exact ⟨rfl, HB1.out⟩

set_option maxRecDepth 100000 in
set_option maxHeartbeats 4000000 in
theorem day_range (y m k d n : Int) (t : TypeId) (v : Value)
    (F : Hid (∀ w : World, Calls Tryd.prog 48 #[onV k d n] w fun e w' => e = .returned (.iface t v) ∧ Below w.heap.size w w')) (h1 : ¬ m < 1) (h2 : ¬ 12 < m) (h : y ≤ -4718 ∨ 294282 ≤ y) (w : World) :
    Calls Tryd.prog 37 #[.int .i64 y, .int .i64 m, onV k d n] w fun e w' => e = .returned (.tuple #[.int .i64 0, .int .i64 10]) ∧ Below w.heap.size w w' := by
  unfold onV at *
  have HB : Hid (Below w.heap.size w (w.alloc (.cells #[.int .i64 k, .int .i64 d, .int .i64 n] 34))) := (Below.refl _ _).alloc (Nat.le_refl _) _
  rcases h with h | h
  · go_enter Tryd.func37, Tryd.ntmps37
    go_wp2_with fail
    refine (F.out _).mono ?_
    rintro e w1 ⟨rfl, hb⟩
    have HB1 : Hid (Below w.heap.size w w1) := HB.out.trans (hb.mono HB.out.size)
    clear hb
    go_wp2
    go_ret2
    exact ⟨rfl, HB1.out⟩
  · have h3 : ¬ y ≤ -4718 := by omega
    go_enter Tryd.func37, Tryd.ntmps37
    go_wp2_with fail
    refine (F.out _).mono ?_
    rintro e w1 ⟨rfl, hb⟩
    have HB1 : Hid (Below w.heap.size w w1) := HB.out.trans (hb.mono HB.out.size)
    clear hb
    go_wp2
    go_ret2
    exact ⟨rfl, HB1.out⟩

theorem Lens_below {w w' : World} {b : Nat} (h : Cvl.Lens w) (hb : Below b w w') (h0 : 0 < b) : Cvl.Lens w' := fun i hi => (hb.cell (p := ⟨0, i, none⟩) h0).trans (h i hi)
theorem Lens_lt {w : World} (h : Cvl.Lens w) : 0 < w.heap.size := by
  have := h 0 (by decide)
  by_cases hlt : 0 < w.heap.size
  · exact hlt
  · have e : w.heap[0]? = none := Array.getElem?_eq_none (by omega)
    simp [World.cell?, e] at this

set_option maxRecDepth 100000 in
set_option maxHeartbeats 4000000 in
theorem day_good (y m k d n F L V : Int) (t : TypeId) (v : Value)
    (FO : Hid (∀ w : World, Calls Tryd.prog 48 #[onV k d n] w fun e w' => e = .returned (.iface t v) ∧ Below w.heap.size w w'))
    (DY : Hid (∀ w : World, Cvl.Lens w → Calls Tryd.prog 49 #[.int .i64 y, .int .i64 m, .int .i64 1] w fun e w' => e = .returned (.tuple #[.int .i64 F, .int .i64 0]) ∧ w' = w))
    (LN : Hid (∀ w : World, Cvl.Lens w → Calls Tryd.prog 51 #[.int .i64 y, .int .i64 m] w fun e w' => e = .returned (.int .i64 L) ∧ w' = w))
    (DO : Hid (∀ w : World, Calls Tryd.prog 50 #[.iface t v, .int .i64 F, .int .i64 L] w fun e w' => e = .returned (.int .i64 V) ∧ Below w.heap.size w w'))
    (h1 : ¬ m < 1) (h2 : ¬ 12 < m) (h3 : ¬ y ≤ -4718) (h4 : ¬ 294282 ≤ y) (w : World) (hL : Hid (Cvl.Lens w)) :
    Calls Tryd.prog 37 #[.int .i64 y, .int .i64 m, onV k d n] w fun e w' => e = .returned (.tuple #[.int .i64 V, .int .i64 0]) ∧ Below w.heap.size w w' := by
  unfold onV at *
  have HB : Hid (Below w.heap.size w (w.alloc (.cells #[.int .i64 k, .int .i64 d, .int .i64 n] 34))) := (Below.refl _ _).alloc (Nat.le_refl _) _
  go_enter Tryd.func37, Tryd.ntmps37
  go_wp2_with fail
  refine (FO.out _).mono ?_
  rintro e w1 ⟨rfl, hb⟩
  have HB1 : Hid (Below w.heap.size w w1) := HB.out.trans (hb.mono HB.out.size)
  have HL1 : Hid (Cvl.Lens w1) := Lens_below hL.out HB1.out (Lens_lt hL.out)
  clear hb
  go_wp2_with fail
  refine (DY.out _ HL1.out).mono ?_
  rintro e w2 ⟨rfl, rfl⟩
  go_wp2_with fail
  refine (LN.out _ HL1.out).mono ?_
  rintro e w3 ⟨rfl, rfl⟩
  go_wp2_with fail
  refine (DO.out _).mono ?_
  rintro e w4 ⟨rfl, hb⟩
  have HB2 : Hid (Below w.heap.size w w4) := HB1.out.trans (hb.mono HB1.out.size)
  clear hb
  go_wp2
  go_ret2
  exact ⟨rfl, HB2.out⟩

theorem formV_is (k d n : Int) : ∃ t v, formV k d n = .iface t v := by
  unfold formV
  split
  · exact ⟨_, _, rfl⟩
  · split <;> exact ⟨_, _, rfl⟩

theorem day_any (y m k d n : Int) (w : World) (hL : Cvl.Lens w) :
    Calls Tryd.prog 37 #[.int .i64 y, .int .i64 m, onV k d n] w fun e w' => e = .returned (.tuple #[.int .i64 (dyV y m k d n), .int .i64 (dyE y m k d n)]) ∧ Below w.heap.size w w' := by
  unfold dyV dyE
  by_cases ho : okOn k d n
  · obtain ⟨t, v, hv⟩ := formV_is k d n
    have FO := formOf_yes k d n ho
    rw [hv] at FO
    by_cases hm : 1 ≤ m ∧ m ≤ 12
    · have ha : dyA m k d n := ⟨ho, hm.1, hm.2⟩
      rw [if_pos ha, if_pos ha]
      by_cases hy : dyY y
      · rw [if_pos hy, if_pos hy]
        have bd := fst1_bd hy hm.1 hm.2
        have lb := Cv.len_bd y m
        have DO := dayOf_any (fst1 y m) (Cv.len y m) k d n ho (by omega) (by omega) lb.1 lb.2
        rw [hv] at DO
        unfold dyY at hy
        refine day_good y m k d n (fst1 y m) (Cv.len y m) _ t v FO (fun w hw => ?_) (fun w hw => Cvl.len_any y m w hw) DO (by omega) (by omega) (by omega) (by omega) w hL
        have R := Cvl.days_yes y m 1 (first_right (y := y) hy hm.1 hm.2) w hw
        rw [show Cv.S y + Cv.cum y m + 1 - 1 = fst1 y m by unfold fst1; omega] at R
        exact R
      · rw [if_neg hy, if_neg hy]
        unfold dyY at hy
        exact day_range y m k d n t v FO (by omega) (by omega) (by omega) w
    · have ha : ¬ dyA m k d n := fun q => hm q.2
      rw [if_neg ha, if_neg ha]
      exact day_arg y m k d n _ (.inr ⟨t, v, rfl⟩) FO (by omega) w
  · have ha : ¬ dyA m k d n := fun q => ho q.1
    rw [if_neg ha, if_neg ha]
    exact day_arg y m k d n _ (.inl rfl) (formOf_no k d n ho) (.inl rfl) w

/-- how many days on or back. -/
def dist (n0 d : Int) (up : Bool) : Int := if up = true then (d - (n0 + 6)) % 7 else ((n0 + 6) - d) % 7
theorem dist_bd (n0 d : Int) (up : Bool) : 0 ≤ dist n0 d up ∧ dist n0 d up ≤ 6 := by unfold dist; split <;> omega
def stp (up : Bool) (n0 j : Int) : Int := if up = true then n0 + j else n0 - j
theorem stp_hit {n0 d j : Int} {up : Bool} (h0 : 0 ≤ j) (h1 : j ≤ dist n0 d up) (d1 : 0 ≤ d) (d2 : d ≤ 6) : (stp up n0 j + 6) % 7 = d ↔ j = dist n0 d up := by
  unfold stp dist at *
  cases up
  · simp only [Bool.false_eq_true, if_false] at *
    omega
  · simp only [if_true] at *
    omega

set_option maxRecDepth 100000 in
set_option maxHeartbeats 8000000 in
theorem rday_arg (y m k d n : Int) (b : Bool)
    (RO : Hid (∀ w : World, Calls Tryd.prog 40 #[onV k d n] w fun e w' => e = .returned (.bool b) ∧ Below w.heap.size w w')) (h : b = false ∨ m < 1 ∨ 12 < m) (w : World) :
    Calls Tryd.prog 33 #[.int .i64 y, .int .i64 m, onV k d n] w fun e w' => e = .returned (.tuple #[.int .i64 0, .int .i64 1]) ∧ Below w.heap.size w w' := by
  unfold onV at *
  have HB : Hid (Below w.heap.size w (w.alloc (.cells #[.int .i64 k, .int .i64 d, .int .i64 n] 23))) := (Below.refl _ _).alloc (Nat.le_refl _) _
  cases b
  · clear h
    go_enter Tryd.func33, Tryd.ntmps33
    go_wp2_with fail
    refine (RO.out _).mono ?_
    rintro e w1 ⟨rfl, hb⟩
    have HB1 : Hid (Below w.heap.size w w1) := HB.out.trans (hb.mono HB.out.size)
    clear hb
    go_wp2
    go_ret2
    exact ⟨rfl, HB1.out⟩
  · have h' : m < 1 ∨ 12 < m := h.resolve_left (fun e => by cases e)
    clear h
    rcases h' with h | h
    · go_enter Tryd.func33, Tryd.ntmps33
      go_wp2_with fail
      refine (RO.out _).mono ?_
      rintro e w1 ⟨rfl, hb⟩
      have HB1 : Hid (Below w.heap.size w w1) := HB.out.trans (hb.mono HB.out.size)
      clear hb
      go_wp2
      go_ret2
      exact ⟨rfl, HB1.out⟩
    · have h2 : ¬ m < 1 := by omega
      go_enter Tryd.func33, Tryd.ntmps33
      go_wp2_with fail
      refine (RO.out _).mono ?_
      rintro e w1 ⟨rfl, hb⟩
      have HB1 : Hid (Below w.heap.size w w1) := HB.out.trans (hb.mono HB.out.size)
      clear hb
      go_wp2
      go_ret2
      exact ⟨rfl, HB1.out⟩

set_option maxRecDepth 100000 in
set_option maxHeartbeats 8000000 in
theorem rday_range (y m k d n : Int)
    (RO : Hid (∀ w : World, Calls Tryd.prog 40 #[onV k d n] w fun e w' => e = .returned (.bool true) ∧ Below w.heap.size w w')) (h1 : ¬ m < 1) (h2 : ¬ 12 < m) (h : y ≤ -4718 ∨ 294282 ≤ y) (w : World) :
    Calls Tryd.prog 33 #[.int .i64 y, .int .i64 m, onV k d n] w fun e w' => e = .returned (.tuple #[.int .i64 0, .int .i64 10]) ∧ Below w.heap.size w w' := by
  unfold onV at *
  have HB : Hid (Below w.heap.size w (w.alloc (.cells #[.int .i64 k, .int .i64 d, .int .i64 n] 23))) := (Below.refl _ _).alloc (Nat.le_refl _) _
  rcases h with h | h
  · go_enter Tryd.func33, Tryd.ntmps33
    go_wp2_with fail
    refine (RO.out _).mono ?_
    rintro e w1 ⟨rfl, hb⟩
    have HB1 : Hid (Below w.heap.size w w1) := HB.out.trans (hb.mono HB.out.size)
    clear hb
    go_wp2
    go_ret2
    exact ⟨rfl, HB1.out⟩
  · have h3 : ¬ y ≤ -4718 := by omega
    go_enter Tryd.func33, Tryd.ntmps33
    go_wp2_with fail
    refine (RO.out _).mono ?_
    rintro e w1 ⟨rfl, hb⟩
    have HB1 : Hid (Below w.heap.size w w1) := HB.out.trans (hb.mono HB.out.size)
    clear hb
    go_wp2
    go_ret2
    exact ⟨rfl, HB1.out⟩

set_option maxRecDepth 100000 in
set_option maxHeartbeats 8000000 in
theorem rday_zero (y m n F : Int)
    (RO : Hid (∀ w : World, Calls Tryd.prog 40 #[onV 0 0 n] w fun e w' => e = .returned (.bool true) ∧ Below w.heap.size w w'))
    (DY : Hid (∀ w : World, Calls Tryd.prog 42 #[.int .i64 y, .int .i64 m, .int .i64 1] w fun e w' => e = .returned (.tuple #[.int .i64 F, .int .i64 0]) ∧ w' = w))
    (h1 : ¬ m < 1) (h2 : ¬ 12 < m) (h3 : ¬ y ≤ -4718) (h4 : ¬ 294282 ≤ y) (f1 : -1000000000 ≤ F) (f2 : F ≤ 1000000000) (n1 : 0 ≤ n) (n2 : n ≤ 31) (w : World) :
    Calls Tryd.prog 33 #[.int .i64 y, .int .i64 m, onV 0 0 n] w fun e w' => e = .returned (.tuple #[.int .i64 (F + n - 1), .int .i64 0]) ∧ Below w.heap.size w w' := by
  unfold onV at *
  have S0 : Hid (OnS w w.heap.size 0 0 n (w.alloc (.cells #[.int .i64 0, .int .i64 0, .int .i64 n] 23))) := OnS.new w _ _ _ _
  go_enter Tryd.func33, Tryd.ntmps33
  go_wp2_with fail
  refine (RO.out _).mono ?_
  rintro e w1 ⟨rfl, hb⟩
  have S1 : Hid (OnS w w.heap.size 0 0 n w1) := S0.out.below hb
  clear hb S0
  go_wp2_with fail
  refine (DY.out _).mono ?_
  rintro e w2 ⟨rfl, rfl⟩
  obtain ⟨o1, o2, o3, o4, o5⟩ := id S1.out
  clear o5
  go_wp2_with fail
  go_loopw [10, 11] (fun nv kv W => nv = .int .i64 (F + n - 1) ∧ kv = .int .i64 0 ∧ OnS w w.heap.size 0 0 n W) (fun _ _ _ => 0)
  case atStart => exact ⟨rfl, rfl, S1.out⟩
  case round =>
    obtain ⟨rfl, rfl, hS⟩ := hrel
    have HS : Hid (OnS w w.heap.size 0 0 n wr) := hS
    obtain ⟨p1, p2, p3, p4, p5⟩ := hS
    clear p5 o1 o2 o3 o4
    go_wp2_with fail
    go_quiet (fail)
    go_wp2
    go_ret2
    exact ⟨rfl, below_drewN HS.out.2.2.2.2 nq⟩

end Go.Proofs.YthbcicjkmgoliaaDoor
