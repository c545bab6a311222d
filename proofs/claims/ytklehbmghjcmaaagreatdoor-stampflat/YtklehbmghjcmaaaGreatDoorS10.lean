import Derived.Test.YtklehbmghjcmaaaGreatDoorSz
import Derived.Test.YtklehbmghjcmaaaGreatDoorS9
import Derived.Test.YtklehbmghjcmaaaGreatDoorS6
import Derived.Test.YtklehbmghjcmaaaGreatDoorS8
import Derived.Test.YtklehbmghjcmaaaGreatDoorS1
open Go.Value renaming int → vi
open Go.IntKind renaming i64 → ki
open List renaming setIfInBounds_toArray → zb, set_cons_zero → zc, set_cons_succ → zd
open Go.Act renaming put → za
open Go.Ending renaming returned → zr
set_option maxRecDepth 100000
set_option maxHeartbeats 16000000
set_option linter.unusedVariables false
namespace Go.Proofs.YtklehbmghjcmaaaGreatDoor
open Go.RowKit
def dyA (m k d n : Int) : Prop := okOn k d n ∧ 1 ≤ m ∧ m ≤ 12
instance (m k d n : Int) : Decidable (dyA m k d n) := by unfold dyA; infer_instance
def dyY (y : Int) : Prop := -4718 < y ∧ y < 294282
instance (y : Int) : Decidable (dyY y) := by unfold dyY; infer_instance
def fst1 (y m : Int) : Int := Cv.S y + Cv.cum y m
def dyV (y m k d n : Int) : Int := if dyA m k d n then (if dyY y then dayN (fst1 y m) (Cv.len y m) k d n else 0) else 0
def dyE (y m k d n : Int) : Int := if dyA m k d n then (if dyY y then 0 else 10) else 1
theorem first_right {y m : Int} (hy : dyY y) (h1 : 1 ≤ m) (h2 : m ≤ 12) : Cvl.right y m 1 = true := by
 have l := Cv.len_01 y m h1 h2
 unfold dyY at hy
 exact Cvl.right_yes (by omega)
theorem fst1_bd {y m : Int} (hy : dyY y) (h1 : 1 ≤ m) (h2 : m ≤ 12) : -1000000000 ≤ fst1 y m - 1000 ∧ fst1 y m + 1000 ≤ 1000000000 := by
 unfold dyY at hy
 have c := Cv.cum_bd y m
 unfold fst1 Cv.S
 omega
theorem day_arg (y m k d n : Int) (f : Value) (hf : f = .nilIface ∨ ∃ t v, f = .iface t v)
  (F : Hid (∀ w : World, Calls Tryz.prog 224 #[onV k d n] w fun e w' => e = .returned f ∧ Below w.heap.size w w')) (h : f = .nilIface ∨ m < 1 ∨ 12 < m) (w : World) :
  Calls Tryz.prog 221 #[vi ki y, vi ki m, onV k d n] w fun e w' => e = zr (.tuple #[vi ki 0, vi ki 1]) ∧ Below w.heap.size w w' := by
 unfold onV at *
 have HB : Hid (Below w.heap.size w (w.alloc (.cells #[vi ki k, vi ki d, vi ki n] 37))) := (Below.refl _ _).alloc (Nat.le_refl _) _
 rcases hf with rfl | ⟨t, v, rfl⟩
 ·clear h
  go_enter Tryz.func221, Tryz.ntmps221
  go_wp2_with fail
  refine (F.out _).mono ?_
  rintro e w1 ⟨rfl, hb⟩
  have HB1 : Hid (Below w.heap.size w w1) := HB.out.trans (hb.mono HB.out.size)
  clear hb
  go_wp2
  go_ret2
  exact ⟨rfl, HB1.out⟩
 ·have h' : m < 1 ∨ 12 < m := h.resolve_left (fun e => by cases e)
  clear h
  rcases h' with h | h
  ·go_enter Tryz.func221, Tryz.ntmps221
   go_wp2_with fail
   refine (F.out _).mono ?_
   rintro e w1 ⟨rfl, hb⟩
   have HB1 : Hid (Below w.heap.size w w1) := HB.out.trans (hb.mono HB.out.size)
   clear hb
   go_wp2
   go_ret2
   exact ⟨rfl, HB1.out⟩
  ·have h2 : ¬ m < 1 := by omega
   go_enter Tryz.func221, Tryz.ntmps221
   go_wp2_with fail
   refine (F.out _).mono ?_
   rintro e w1 ⟨rfl, hb⟩
   have HB1 : Hid (Below w.heap.size w w1) := HB.out.trans (hb.mono HB.out.size)
   clear hb
   go_wp2
   go_ret2
   exact ⟨rfl, HB1.out⟩
theorem day_range (y m k d n : Int) (t : TypeId) (v : Value)
  (F : Hid (∀ w : World, Calls Tryz.prog 224 #[onV k d n] w fun e w' => e = zr (.iface t v) ∧ Below w.heap.size w w')) (h1 : ¬ m < 1) (h2 : ¬ 12 < m) (h : y ≤ -4718 ∨ 294282 ≤ y) (w : World) :
  Calls Tryz.prog 221 #[vi ki y, vi ki m, onV k d n] w fun e w' => e = zr (.tuple #[vi ki 0, vi ki 10]) ∧ Below w.heap.size w w' := by
 unfold onV at *
 have HB : Hid (Below w.heap.size w (w.alloc (.cells #[vi ki k, vi ki d, vi ki n] 37))) := (Below.refl _ _).alloc (Nat.le_refl _) _
 rcases h with h | h
 ·go_enter Tryz.func221, Tryz.ntmps221
  go_wp2_with fail
  refine (F.out _).mono ?_
  rintro e w1 ⟨rfl, hb⟩
  have HB1 : Hid (Below w.heap.size w w1) := HB.out.trans (hb.mono HB.out.size)
  clear hb
  go_wp2
  go_ret2
  exact ⟨rfl, HB1.out⟩
 ·have h3 : ¬ y ≤ -4718 := by omega
  go_enter Tryz.func221, Tryz.ntmps221
  go_wp2_with fail
  refine (F.out _).mono ?_
  rintro e w1 ⟨rfl, hb⟩
  have HB1 : Hid (Below w.heap.size w w1) := HB.out.trans (hb.mono HB.out.size)
  clear hb
  go_wp2
  go_ret2
  exact ⟨rfl, HB1.out⟩
theorem Lens_below {w w' : World} {b : Nat} (h : Cvl.Lens w) (hb : Below b w w') (h0 : 1 < b) : Cvl.Lens w' := fun i hi => (hb.cell (p := ⟨1, i, none⟩) h0).trans (h i hi)
theorem Lens_lt {w : World} (h : Cvl.Lens w) : 1 < w.heap.size := by
 have := h 0 (by decide)
 by_cases hlt : 1 < w.heap.size
 ·exact hlt
 ·have e : w.heap[1]? = none := Array.getElem?_eq_none (by omega)
  simp [World.cell?, e] at this
theorem day_good (y m k d n F L V : Int) (t : TypeId) (v : Value)
  (FO : Hid (∀ w : World, Calls Tryz.prog 224 #[onV k d n] w fun e w' => e = zr (.iface t v) ∧ Below w.heap.size w w'))
  (DY : Hid (∀ w : World, Cvl.Lens w → Calls Tryz.prog 192 #[vi ki y, vi ki m, vi ki 1] w fun e w' => e = zr (.tuple #[vi ki F, vi ki 0]) ∧ w' = w))
  (LN : Hid (∀ w : World, Cvl.Lens w → Calls Tryz.prog 172 #[vi ki y, vi ki m] w fun e w' => e = zr (vi ki L) ∧ w' = w))
  (DO : Hid (∀ w : World, Calls Tryz.prog 225 #[.iface t v, vi ki F, vi ki L] w fun e w' => e = zr (vi ki V) ∧ Below w.heap.size w w'))
  (h1 : ¬ m < 1) (h2 : ¬ 12 < m) (h3 : ¬ y ≤ -4718) (h4 : ¬ 294282 ≤ y) (w : World) (hL : Hid (Cvl.Lens w)) :
  Calls Tryz.prog 221 #[vi ki y, vi ki m, onV k d n] w fun e w' => e = zr (.tuple #[vi ki V, vi ki 0]) ∧ Below w.heap.size w w' := by
 unfold onV at *
 have HB : Hid (Below w.heap.size w (w.alloc (.cells #[vi ki k, vi ki d, vi ki n] 37))) := (Below.refl _ _).alloc (Nat.le_refl _) _
 go_enter Tryz.func221, Tryz.ntmps221
 go_wp2_with fail
 refine (FO.out _).mono ?_
 rintro e w1 ⟨rfl, hb⟩
 have HB1 : Hid (Below w.heap.size w w1) := HB.out.trans (hb.mono HB.out.size)
 have HL1 : Hid (Cvl.Lens w1) := Lens_below hL.out HB1.out (Lens_lt hL.out)
 clear hb
 go_wp2_with fail
 refine (DY.out _ HL1.out).mono ?_
 rintro e w2 ⟨rfl, rfl⟩
 go_wp2_with fail
 refine (LN.out _ HL1.out).mono ?_
 rintro e w3 ⟨rfl, rfl⟩
 go_wp2_with fail
 refine (DO.out _).mono ?_
 rintro e w4 ⟨rfl, hb⟩
 have HB2 : Hid (Below w.heap.size w w4) := HB1.out.trans (hb.mono HB1.out.size)
 clear hb
 go_wp2
 go_ret2
 exact ⟨rfl, HB2.out⟩
theorem formV_is (k d n : Int) : ∃ t v, formV k d n = .iface t v := by
 unfold formV
 split
 ·exact ⟨_, _, rfl⟩
 ·split <;> exact ⟨_, _, rfl⟩
theorem day_any (y m k d n : Int) (w : World) (hL : Cvl.Lens w) :
  Calls Tryz.prog 221 #[vi ki y, vi ki m, onV k d n] w fun e w' => e = zr (.tuple #[vi ki (dyV y m k d n), vi ki (dyE y m k d n)]) ∧ Below w.heap.size w w' := by
 unfold dyV dyE
 by_cases ho : okOn k d n
 ·obtain ⟨t, v, hv⟩ := formV_is k d n
  have FO := formOf_yes k d n ho
  rw [hv] at FO
  by_cases hm : 1 ≤ m ∧ m ≤ 12
  ·have ha : dyA m k d n := ⟨ho, hm.1, hm.2⟩
   rw [if_pos ha, if_pos ha]
   by_cases hy : dyY y
   ·rw [if_pos hy, if_pos hy]
    have bd := fst1_bd hy hm.1 hm.2
    have lb := Cv.len_bd y m
    have DO := dayOf_any (fst1 y m) (Cv.len y m) k d n ho (by omega) (by omega) lb.1 lb.2
    rw [hv] at DO
    unfold dyY at hy
    refine day_good y m k d n (fst1 y m) (Cv.len y m) _ t v FO (fun w hw => ?_) (fun w hw => Cvl.len_any y m w hw) DO (by omega) (by omega) (by omega) (by omega) w hL
    have R := Cvl.days_yes y m 1 (first_right (y := y) hy hm.1 hm.2) w hw
    rw [show Cv.S y + Cv.cum y m + 1 - 1 = fst1 y m by unfold fst1; omega] at R
    exact R
   ·rw [if_neg hy, if_neg hy]
    unfold dyY at hy
    exact day_range y m k d n t v FO (by omega) (by omega) (by omega) w
  ·have ha : ¬ dyA m k d n := fun q => hm q.2
   rw [if_neg ha, if_neg ha]
   exact day_arg y m k d n _ (.inr ⟨t, v, rfl⟩) FO (by omega) w
 ·have ha : ¬ dyA m k d n := fun q => ho q.1
  rw [if_neg ha, if_neg ha]
  exact day_arg y m k d n _ (.inl rfl) (formOf_no k d n ho) (.inl rfl) w
def dist (n0 d : Int) (up : Bool) : Int := if up = true then (d - (n0 + 6)) % 7 else ((n0 + 6) - d) % 7
theorem dist_bd (n0 d : Int) (up : Bool) : 0 ≤ dist n0 d up ∧ dist n0 d up ≤ 6 := by unfold dist; split <;> omega
def stp (up : Bool) (n0 j : Int) : Int := if up = true then n0 + j else n0 - j
theorem stp_hit {n0 d j : Int} {up : Bool} (h0 : 0 ≤ j) (h1 : j ≤ dist n0 d up) (d1 : 0 ≤ d) (d2 : d ≤ 6) : (stp up n0 j + 6) % 7 = d ↔ j = dist n0 d up := by
 unfold stp dist at *
 cases up
 ·simp only [Bool.false_eq_true, if_false] at *
  omega
 ·simp only [if_true] at *
  omega
theorem rday_arg (y m k d n : Int) (b : Bool)
  (RO : Hid (∀ w : World, Calls Tryz.prog 211 #[onV k d n] w fun e w' => e = zr (.bool b) ∧ Below w.heap.size w w')) (h : b = false ∨ m < 1 ∨ 12 < m) (w : World) :
  Calls Tryz.prog 207 #[vi ki y, vi ki m, onV k d n] w fun e w' => e = zr (.tuple #[vi ki 0, vi ki 1]) ∧ Below w.heap.size w w' := by
 unfold onV at *
 have HB : Hid (Below w.heap.size w (w.alloc (.cells #[vi ki k, vi ki d, vi ki n] 26))) := (Below.refl _ _).alloc (Nat.le_refl _) _
 cases b
 ·clear h
  go_enter Tryz.func207, Tryz.ntmps207
  go_wp2_with fail
  refine (RO.out _).mono ?_
  rintro e w1 ⟨rfl, hb⟩
  have HB1 : Hid (Below w.heap.size w w1) := HB.out.trans (hb.mono HB.out.size)
  clear hb
  go_wp2
  go_ret2
  exact ⟨rfl, HB1.out⟩
 ·have h' : m < 1 ∨ 12 < m := h.resolve_left (fun e => by cases e)
  clear h
  rcases h' with h | h
  ·go_enter Tryz.func207, Tryz.ntmps207
   go_wp2_with fail
   refine (RO.out _).mono ?_
   rintro e w1 ⟨rfl, hb⟩
   have HB1 : Hid (Below w.heap.size w w1) := HB.out.trans (hb.mono HB.out.size)
   clear hb
   go_wp2
   go_ret2
   exact ⟨rfl, HB1.out⟩
  ·have h2 : ¬ m < 1 := by omega
   go_enter Tryz.func207, Tryz.ntmps207
   go_wp2_with fail
   refine (RO.out _).mono ?_
   rintro e w1 ⟨rfl, hb⟩
   have HB1 : Hid (Below w.heap.size w w1) := HB.out.trans (hb.mono HB.out.size)
   clear hb
   go_wp2
   go_ret2
   exact ⟨rfl, HB1.out⟩
theorem rday_range (y m k d n : Int)
  (RO : Hid (∀ w : World, Calls Tryz.prog 211 #[onV k d n] w fun e w' => e = zr (.bool true) ∧ Below w.heap.size w w')) (h1 : ¬ m < 1) (h2 : ¬ 12 < m) (h : y ≤ -4718 ∨ 294282 ≤ y) (w : World) :
  Calls Tryz.prog 207 #[vi ki y, vi ki m, onV k d n] w fun e w' => e = zr (.tuple #[vi ki 0, vi ki 10]) ∧ Below w.heap.size w w' := by
 unfold onV at *
 have HB : Hid (Below w.heap.size w (w.alloc (.cells #[vi ki k, vi ki d, vi ki n] 26))) := (Below.refl _ _).alloc (Nat.le_refl _) _
 rcases h with h | h
 ·go_enter Tryz.func207, Tryz.ntmps207
  go_wp2_with fail
  refine (RO.out _).mono ?_
  rintro e w1 ⟨rfl, hb⟩
  have HB1 : Hid (Below w.heap.size w w1) := HB.out.trans (hb.mono HB.out.size)
  clear hb
  go_wp2
  go_ret2
  exact ⟨rfl, HB1.out⟩
 ·have h3 : ¬ y ≤ -4718 := by omega
  go_enter Tryz.func207, Tryz.ntmps207
  go_wp2_with fail
  refine (RO.out _).mono ?_
  rintro e w1 ⟨rfl, hb⟩
  have HB1 : Hid (Below w.heap.size w w1) := HB.out.trans (hb.mono HB.out.size)
  clear hb
  go_wp2
  go_ret2
  exact ⟨rfl, HB1.out⟩
theorem rday_zero (y m n F : Int)
  (RO : Hid (∀ w : World, Calls Tryz.prog 211 #[onV 0 0 n] w fun e w' => e = zr (.bool true) ∧ Below w.heap.size w w'))
  (DY : Hid (∀ w : World, Calls Tryz.prog 114 #[vi ki y, vi ki m, vi ki 1] w fun e w' => e = zr (.tuple #[vi ki F, vi ki 0]) ∧ w' = w))
  (h1 : ¬ m < 1) (h2 : ¬ 12 < m) (h3 : ¬ y ≤ -4718) (h4 : ¬ 294282 ≤ y) (f1 : -1000000000 ≤ F) (f2 : F ≤ 1000000000) (n1 : 0 ≤ n) (n2 : n ≤ 31) (w : World) :
  Calls Tryz.prog 207 #[vi ki y, vi ki m, onV 0 0 n] w fun e w' => e = zr (.tuple #[vi ki (F + n - 1), vi ki 0]) ∧ Below w.heap.size w w' := by
 unfold onV at *
 have S0 : Hid (OnS w w.heap.size 0 0 n (w.alloc (.cells #[vi ki 0, vi ki 0, vi ki n] 26))) := OnS.new w _ _ _ _
 go_enter Tryz.func207, Tryz.ntmps207
 go_wp2_with fail
 refine (RO.out _).mono ?_
 rintro e w1 ⟨rfl, hb⟩
 have S1 : Hid (OnS w w.heap.size 0 0 n w1) := S0.out.below hb
 clear hb S0
 go_wp2_with fail
 refine (DY.out _).mono ?_
 rintro e w2 ⟨rfl, rfl⟩
 obtain ⟨o1, o2, o3, o4, o5⟩ := id S1.out
 clear o5
 go_wp2_with fail
 go_loopw [10, 11] (fun nv kv W => nv = vi ki (F + n - 1) ∧ kv = vi ki 0 ∧ OnS w w.heap.size 0 0 n W) (fun _ _ _ => 0)
 case atStart => exact ⟨rfl, rfl, S1.out⟩
 case round =>
  obtain ⟨rfl, rfl, hS⟩ := hrel
  have HS : Hid (OnS w w.heap.size 0 0 n wr) := hS
  obtain ⟨p1, p2, p3, p4, p5⟩ := hS
  clear p5 o1 o2 o3 o4
  go_wp2_with fail
  go_quiet (fail)
  go_wp2
  go_ret2
  exact ⟨rfl, below_drewN HS.out.2.2.2.2 nq⟩
theorem ret_pair {a b c : Int} (h : a = b) : Ending.returned (.tuple #[vi ki a, vi ki c]) = zr (.tuple #[vi ki b, vi ki c]) := by rw [h]
theorem rday_k1 (y m d F L : Int) (l1 : 0 ≤ L) (l2 : L ≤ 31) (d1 : 0 ≤ d) (d2 : d ≤ 6)
  (RO : Hid (∀ w : World, Calls Tryz.prog 211 #[onV 1 d 0] w fun e w' => e = zr (.bool true) ∧ Below w.heap.size w w'))
  (DY : Hid (∀ w : World, Calls Tryz.prog 114 #[vi ki y, vi ki m, vi ki 1] w fun e w' => e = zr (.tuple #[vi ki F, vi ki 0]) ∧ w' = w))
  (LN : Hid (∀ w : World, Calls Tryz.prog 150 #[vi ki y, vi ki m] w fun e w' => e = zr (vi ki L) ∧ w' = w))
  (h1 : ¬ m < 1) (h2 : ¬ 12 < m) (h3 : ¬ y ≤ -4718) (h4 : ¬ 294282 ≤ y) (f1 : -1000000000 ≤ F) (f2 : F ≤ 1000000000) (w : World) :
  Calls Tryz.prog 207 #[vi ki y, vi ki m, onV 1 d 0] w fun e w' => e = zr (.tuple #[vi ki ((F + L - 1) - dist (F + L - 1) d false), vi ki 0]) ∧ Below w.heap.size w w' := by
 unfold onV at *
 obtain ⟨n0, hn0⟩ : ∃ n0, n0 = F + L - 1 := ⟨_, rfl⟩
 obtain ⟨t, ht⟩ : ∃ t, t = dist n0 d false := ⟨_, rfl⟩
 rw [← hn0, ← ht]
 have tb := dist_bd n0 d false
 rw [← ht] at tb
 have HIT : Hid (∀ j : Int, 0 ≤ j → j ≤ t → ((n0 - j + 6) % 7 = d ↔ j = t)) := fun j a b => by
  have r := stp_hit (n0 := n0) (d := d) (j := j) (up := false) a (by omega) d1 d2
  rw [← ht] at r
  exact r
 have WD : Hid (∀ (x : Int) (w : World), Calls Tryz.prog 64 #[vi ki x] w fun e w' => e = zr (vi ki ((x + 6) % 7)) ∧ w' = w) := fun x w => Cvl.rweekday_any x w
 have S0 : Hid (OnS w w.heap.size 1 d 0 (w.alloc (.cells #[vi ki 1, vi ki d, vi ki 0] 26))) := OnS.new w _ _ _ _
 have nb1 : -2000000000 ≤ n0 := by omega
 have nb2 : n0 ≤ 2000000000 := by omega
 obtain ⟨T, hT⟩ : ∃ T : Nat, t = (T : Int) := ⟨t.toNat, by omega⟩
 have T6 : T ≤ 6 := by omega
 clear ht tb
 go_enter Tryz.func207, Tryz.ntmps207
 go_wp2_with fail
 refine (RO.out _).mono ?_
 rintro e w1 ⟨rfl, hb⟩
 have S1 : Hid (OnS w w.heap.size 1 d 0 w1) := S0.out.below hb
 clear hb S0
 go_wp2_with fail
 refine (DY.out _).mono ?_
 rintro e w2 ⟨rfl, rfl⟩
 obtain ⟨o1, o2, o3, o4, o5⟩ := id S1.out
 clear o5
 go_wp2_with fail
 refine (LN.out _).mono ?_
 rintro e w3 ⟨rfl, rfl⟩
 go_wp2_with fail
 go_loopw [10, 11] (fun nv kv W => ∃ j : Nat, j ≤ T ∧ nv = vi ki (n0 - (j : Int)) ∧ kv = vi ki (j : Int) ∧ OnS w w.heap.size 1 d 0 W) (fun _ kv _ => 7 - (intOf kv).toNat)
 case atStart => exact ⟨0, Nat.zero_le _, by rw [hn0]; simp, rfl, S1.out⟩
 case round =>
  obtain ⟨j, hj, rfl, rfl, hS⟩ := hrel
  have HS : Hid (OnS w w.heap.size 1 d 0 wr) := hS
  obtain ⟨p1, p2, p3, p4, p5⟩ := hS
  clear p5 o1 o2 o3 o4 hn0
  have j7 : (j : Int) < 7 := by omega
  have hw := HIT.out (j : Int) (by omega) (by omega)
  have W1 : Hid (∀ w : World, Calls Tryz.prog 64 #[vi ki (n0 - (j : Int))] w fun e w' => e = zr (vi ki ((n0 - (j : Int) + 6) % 7)) ∧ w' = w) := fun w => WD.out _ w
  obtain ⟨q, hq⟩ : ∃ q, q = (n0 - (j : Int) + 6) % 7 := ⟨_, rfl⟩
  rw [← hq] at W1 hw
  by_cases hjt : j = T
  ·have e1 : q = d := hw.2 (by omega)
   have e2 : (q != d) = false := by rw [e1]; simp
   have HV : Hid (n0 - (j : Int) = n0 - t) := by show _ = _; rw [hjt, hT]
   clear hq hw hjt e1
   go_wp2_with fail
   go_quiet (first | (go_at_call 64; refine Calls.quiet_of_same (W1.out _)))
   go_wp2
   go_ret2
   exact ⟨ret_pair HV.out, below_drewN HS.out.2.2.2.2 nq⟩
  ·have e1 : q ≠ d := fun e => hjt (by have := hw.1 e; omega)
   have e2 : (q != d) = true := bne_iff_ne.2 e1
   have jl : j < T := by omega
   clear hq hw
   go_wp2_with fail
   go_quiet (first | (go_at_call 64; refine Calls.quiet_of_same (W1.out _)))
   go_wp2
   go_roundw
   case rel => exact ⟨j + 1, by omega, by go_num, by go_num, HS.out.drewN nq⟩
   case measure => simp [intOf]; omega
theorem rday_k2 (y m d F L : Int) (n : Int) (n1 : 1 ≤ n) (n2 : n ≤ 31) (l1 : 0 ≤ L) (l2 : L ≤ 31) (d1 : 0 ≤ d) (d2 : d ≤ 6)
  (RO : Hid (∀ w : World, Calls Tryz.prog 211 #[onV 2 d n] w fun e w' => e = zr (.bool true) ∧ Below w.heap.size w w'))
  (DY : Hid (∀ w : World, Calls Tryz.prog 114 #[vi ki y, vi ki m, vi ki 1] w fun e w' => e = zr (.tuple #[vi ki F, vi ki 0]) ∧ w' = w))
  (LN : Hid (∀ w : World, Calls Tryz.prog 150 #[vi ki y, vi ki m] w fun e w' => e = zr (vi ki L) ∧ w' = w))
  (h1 : ¬ m < 1) (h2 : ¬ 12 < m) (h3 : ¬ y ≤ -4718) (h4 : ¬ 294282 ≤ y) (f1 : -1000000000 ≤ F) (f2 : F ≤ 1000000000) (w : World) :
  Calls Tryz.prog 207 #[vi ki y, vi ki m, onV 2 d n] w fun e w' => e = zr (.tuple #[vi ki ((F + n - 1) + dist (F + n - 1) d true), vi ki 0]) ∧ Below w.heap.size w w' := by
 unfold onV at *
 obtain ⟨n0, hn0⟩ : ∃ n0, n0 = F + n - 1 := ⟨_, rfl⟩
 obtain ⟨t, ht⟩ : ∃ t, t = dist n0 d true := ⟨_, rfl⟩
 rw [← hn0, ← ht]
 have tb := dist_bd n0 d true
 rw [← ht] at tb
 have HIT : Hid (∀ j : Int, 0 ≤ j → j ≤ t → ((n0 + j + 6) % 7 = d ↔ j = t)) := fun j a b => by
  have r := stp_hit (n0 := n0) (d := d) (j := j) (up := true) a (by omega) d1 d2
  rw [← ht] at r
  exact r
 have WD : Hid (∀ (x : Int) (w : World), Calls Tryz.prog 64 #[vi ki x] w fun e w' => e = zr (vi ki ((x + 6) % 7)) ∧ w' = w) := fun x w => Cvl.rweekday_any x w
 have S0 : Hid (OnS w w.heap.size 2 d n (w.alloc (.cells #[vi ki 2, vi ki d, vi ki n] 26))) := OnS.new w _ _ _ _
 have nb1 : -2000000000 ≤ n0 := by omega
 have nb2 : n0 ≤ 2000000000 := by omega
 obtain ⟨T, hT⟩ : ∃ T : Nat, t = (T : Int) := ⟨t.toNat, by omega⟩
 have T6 : T ≤ 6 := by omega
 clear ht tb
 go_enter Tryz.func207, Tryz.ntmps207
 go_wp2_with fail
 refine (RO.out _).mono ?_
 rintro e w1 ⟨rfl, hb⟩
 have S1 : Hid (OnS w w.heap.size 2 d n w1) := S0.out.below hb
 clear hb S0
 go_wp2_with fail
 refine (DY.out _).mono ?_
 rintro e w2 ⟨rfl, rfl⟩
 obtain ⟨o1, o2, o3, o4, o5⟩ := id S1.out
 clear o5
 go_wp2_with fail
 go_loopw [10, 11] (fun nv kv W => ∃ j : Nat, j ≤ T ∧ nv = vi ki (n0 + (j : Int)) ∧ kv = vi ki (j : Int) ∧ OnS w w.heap.size 2 d n W) (fun _ kv _ => 7 - (intOf kv).toNat)
 case atStart => exact ⟨0, Nat.zero_le _, by rw [hn0]; simp, rfl, S1.out⟩
 case round =>
  obtain ⟨j, hj, rfl, rfl, hS⟩ := hrel
  have HS : Hid (OnS w w.heap.size 2 d n wr) := hS
  obtain ⟨p1, p2, p3, p4, p5⟩ := hS
  clear p5 o1 o2 o3 o4 hn0
  have j7 : (j : Int) < 7 := by omega
  have hw := HIT.out (j : Int) (by omega) (by omega)
  have W1 : Hid (∀ w : World, Calls Tryz.prog 64 #[vi ki (n0 + (j : Int))] w fun e w' => e = zr (vi ki ((n0 + (j : Int) + 6) % 7)) ∧ w' = w) := fun w => WD.out _ w
  obtain ⟨q, hq⟩ : ∃ q, q = (n0 + (j : Int) + 6) % 7 := ⟨_, rfl⟩
  rw [← hq] at W1 hw
  by_cases hjt : j = T
  ·have e1 : q = d := hw.2 (by omega)
   have e2 : (q != d) = false := by rw [e1]; simp
   have HV : Hid (n0 + (j : Int) = n0 + t) := by show _ = _; rw [hjt, hT]
   clear hq hw hjt e1
   go_wp2_with fail
   go_quiet (first | (go_at_call 64; refine Calls.quiet_of_same (W1.out _)))
   go_wp2
   go_ret2
   exact ⟨ret_pair HV.out, below_drewN HS.out.2.2.2.2 nq⟩
  ·have e1 : q ≠ d := fun e => hjt (by have := hw.1 e; omega)
   have e2 : (q != d) = true := bne_iff_ne.2 e1
   have jl : j < T := by omega
   clear hq hw
   go_wp2_with fail
   go_quiet (first | (go_at_call 64; refine Calls.quiet_of_same (W1.out _)))
   go_wp2
   go_roundw
   case rel => exact ⟨j + 1, by omega, by go_num, by go_num, HS.out.drewN nq⟩
   case measure => simp [intOf]; omega
theorem rday_k3 (y m d F L : Int) (n : Int) (n1 : 1 ≤ n) (n2 : n ≤ 31) (l1 : 0 ≤ L) (l2 : L ≤ 31) (d1 : 0 ≤ d) (d2 : d ≤ 6)
  (RO : Hid (∀ w : World, Calls Tryz.prog 211 #[onV 3 d n] w fun e w' => e = zr (.bool true) ∧ Below w.heap.size w w'))
  (DY : Hid (∀ w : World, Calls Tryz.prog 114 #[vi ki y, vi ki m, vi ki 1] w fun e w' => e = zr (.tuple #[vi ki F, vi ki 0]) ∧ w' = w))
  (LN : Hid (∀ w : World, Calls Tryz.prog 150 #[vi ki y, vi ki m] w fun e w' => e = zr (vi ki L) ∧ w' = w))
  (h1 : ¬ m < 1) (h2 : ¬ 12 < m) (h3 : ¬ y ≤ -4718) (h4 : ¬ 294282 ≤ y) (f1 : -1000000000 ≤ F) (f2 : F ≤ 1000000000) (w : World) :
  Calls Tryz.prog 207 #[vi ki y, vi ki m, onV 3 d n] w fun e w' => e = zr (.tuple #[vi ki ((F + n - 1) - dist (F + n - 1) d false), vi ki 0]) ∧ Below w.heap.size w w' := by
 unfold onV at *
 obtain ⟨n0, hn0⟩ : ∃ n0, n0 = F + n - 1 := ⟨_, rfl⟩
 obtain ⟨t, ht⟩ : ∃ t, t = dist n0 d false := ⟨_, rfl⟩
 rw [← hn0, ← ht]
 have tb := dist_bd n0 d false
 rw [← ht] at tb
 have HIT : Hid (∀ j : Int, 0 ≤ j → j ≤ t → ((n0 - j + 6) % 7 = d ↔ j = t)) := fun j a b => by
  have r := stp_hit (n0 := n0) (d := d) (j := j) (up := false) a (by omega) d1 d2
  rw [← ht] at r
  exact r
 have WD : Hid (∀ (x : Int) (w : World), Calls Tryz.prog 64 #[vi ki x] w fun e w' => e = zr (vi ki ((x + 6) % 7)) ∧ w' = w) := fun x w => Cvl.rweekday_any x w
 have S0 : Hid (OnS w w.heap.size 3 d n (w.alloc (.cells #[vi ki 3, vi ki d, vi ki n] 26))) := OnS.new w _ _ _ _
 have nb1 : -2000000000 ≤ n0 := by omega
 have nb2 : n0 ≤ 2000000000 := by omega
 obtain ⟨T, hT⟩ : ∃ T : Nat, t = (T : Int) := ⟨t.toNat, by omega⟩
 have T6 : T ≤ 6 := by omega
 clear ht tb
 go_enter Tryz.func207, Tryz.ntmps207
 go_wp2_with fail
 refine (RO.out _).mono ?_
 rintro e w1 ⟨rfl, hb⟩
 have S1 : Hid (OnS w w.heap.size 3 d n w1) := S0.out.below hb
 clear hb S0
 go_wp2_with fail
 refine (DY.out _).mono ?_
 rintro e w2 ⟨rfl, rfl⟩
 obtain ⟨o1, o2, o3, o4, o5⟩ := id S1.out
 clear o5
 go_wp2_with fail
 go_loopw [10, 11] (fun nv kv W => ∃ j : Nat, j ≤ T ∧ nv = vi ki (n0 - (j : Int)) ∧ kv = vi ki (j : Int) ∧ OnS w w.heap.size 3 d n W) (fun _ kv _ => 7 - (intOf kv).toNat)
 case atStart => exact ⟨0, Nat.zero_le _, by rw [hn0]; simp, rfl, S1.out⟩
 case round =>
  obtain ⟨j, hj, rfl, rfl, hS⟩ := hrel
  have HS : Hid (OnS w w.heap.size 3 d n wr) := hS
  obtain ⟨p1, p2, p3, p4, p5⟩ := hS
  clear p5 o1 o2 o3 o4 hn0
  have j7 : (j : Int) < 7 := by omega
  have hw := HIT.out (j : Int) (by omega) (by omega)
  have W1 : Hid (∀ w : World, Calls Tryz.prog 64 #[vi ki (n0 - (j : Int))] w fun e w' => e = zr (vi ki ((n0 - (j : Int) + 6) % 7)) ∧ w' = w) := fun w => WD.out _ w
  obtain ⟨q, hq⟩ : ∃ q, q = (n0 - (j : Int) + 6) % 7 := ⟨_, rfl⟩
  rw [← hq] at W1 hw
  by_cases hjt : j = T
  ·have e1 : q = d := hw.2 (by omega)
   have e2 : (q != d) = false := by rw [e1]; simp
   have HV : Hid (n0 - (j : Int) = n0 - t) := by show _ = _; rw [hjt, hT]
   clear hq hw hjt e1
   go_wp2_with fail
   go_quiet (first | (go_at_call 64; refine Calls.quiet_of_same (W1.out _)))
   go_wp2
   go_ret2
   exact ⟨ret_pair HV.out, below_drewN HS.out.2.2.2.2 nq⟩
  ·have e1 : q ≠ d := fun e => hjt (by have := hw.1 e; omega)
   have e2 : (q != d) = true := bne_iff_ne.2 e1
   have jl : j < T := by omega
   clear hq hw
   go_wp2_with fail
   go_quiet (first | (go_at_call 64; refine Calls.quiet_of_same (W1.out _)))
   go_wp2
   go_roundw
   case rel => exact ⟨j + 1, by omega, by go_num, by go_num, HS.out.drewN nq⟩
   case measure => simp [intOf]; omega
theorem rday_any (y m k d n : Int) (w : World) :
  Calls Tryz.prog 207 #[vi ki y, vi ki m, onV k d n] w fun e w' => e = zr (.tuple #[vi ki (dyV y m k d n), vi ki (dyE y m k d n)]) ∧ Below w.heap.size w w' := by
 unfold dyV dyE
 by_cases ho : okOn k d n
 ·have RO := rightOn_yes k d n ho
  by_cases hm : 1 ≤ m ∧ m ≤ 12
  ·have ha : dyA m k d n := ⟨ho, hm.1, hm.2⟩
   rw [if_pos ha, if_pos ha]
   by_cases hy : dyY y
   ·rw [if_pos hy, if_pos hy]
    have bd := fst1_bd hy hm.1 hm.2
    have lb := Cv.len_bd y m
    have hr := first_right (y := y) hy hm.1 hm.2
    unfold dyY at hy
    have DY : Hid (∀ w : World, Calls Tryz.prog 114 #[vi ki y, vi ki m, vi ki 1] w fun e w' => e = zr (.tuple #[vi ki (fst1 y m), vi ki 0]) ∧ w' = w) := fun w => by
     have R := Cvl.rdays_yes y m 1 hr w
     rw [show Cv.S y + Cv.cum y m + 1 - 1 = fst1 y m by unfold fst1; omega] at R
     exact R
    have LN : Hid (∀ w : World, Calls Tryz.prog 150 #[vi ki y, vi ki m] w fun e w' => e = zr (vi ki (Cv.len y m)) ∧ w' = w) := fun w => Cvl.rlen_any y m w
    generalize fst1 y m = F at *
    generalize Cv.len y m = L at *
    rcases ho with ⟨rfl, a1, a2, rfl⟩ | ⟨rfl, a1, a2, rfl⟩ | ⟨rfl | rfl, a1, a2, a3, a4⟩
    ·exact rday_zero y m n F RO DY (by omega) (by omega) (by omega) (by omega) (by omega) (by omega) (by omega) a2 w
    ·have R := rday_k1 y m d F L lb.1 lb.2 a1 a2 RO DY LN (by omega) (by omega) (by omega) (by omega) (by omega) (by omega) w
     rw [show F + L - 1 - dist (F + L - 1) d false = dayN F L 1 d 0 by unfold dayN bk dist; simp; omega] at R
     exact R
    ·have R := rday_k2 y m d F L n a3 a4 lb.1 lb.2 a1 a2 RO DY LN (by omega) (by omega) (by omega) (by omega) (by omega) (by omega) w
     rw [show F + n - 1 + dist (F + n - 1) d true = dayN F L 2 d n by unfold dayN bk dist; simp; omega] at R
     exact R
    ·have R := rday_k3 y m d F L n a3 a4 lb.1 lb.2 a1 a2 RO DY LN (by omega) (by omega) (by omega) (by omega) (by omega) (by omega) w
     rw [show F + n - 1 - dist (F + n - 1) d false = dayN F L 3 d n by unfold dayN bk dist; simp; omega] at R
     exact R
   ·rw [if_neg hy, if_neg hy]
    unfold dyY at hy
    exact rday_range y m k d n RO (by omega) (by omega) (by omega) w
  ·have ha : ¬ dyA m k d n := fun q => hm q.2
   rw [if_neg ha, if_neg ha]
   exact rday_arg y m k d n _ RO (by omega) w
 ·have ha : ¬ dyA m k d n := fun q => ho q.1
  rw [if_neg ha, if_neg ha]
  exact rday_arg y m k d n _ (rightOn_no k d n ho) (.inl rfl) w
end Go.Proofs.YtklehbmghjcmaaaGreatDoor
namespace Go.Proofs.YtklehbmghjcmaaaGreatDoor.Fn
open Go.RowKit
def inst (d s k o v : Int) : Int := if k = 117 then (d + 10957) * 86400 + s else if k = 115 then (d + 10957) * 86400 + s - o else (d + 10957) * 86400 + s - o - v
theorem inst_any (d s k o v : Int) (d1 : -1000000000 ≤ d) (d2 : d ≤ 1000000000) (s1 : 0 ≤ s) (s2 : s ≤ 86400) (o1 : -50400 ≤ o) (o2 : o ≤ 50400) (v1 : 0 ≤ v) (v2 : v ≤ 7200) (w : World) :
  Calls Tryz.prog 233 #[vi ki d, vi ki s, .int .u8 k, vi ki o, vi ki v] w fun e w' => e = zr (vi ki (inst d s k o v)) ∧ w' = w := by
 by_cases h1 : k = 117
 ·subst h1
  go_enter Tryz.func233, Tryz.ntmps233
  go_wp2
  go_ret
  exact ⟨Cvl.ret_int (by unfold inst; simp), rfl⟩
 ·by_cases h2 : k = 115
  ·subst h2
   go_enter Tryz.func233, Tryz.ntmps233
   go_wp2
   go_ret
   exact ⟨Cvl.ret_int (by unfold inst; simp), rfl⟩
  ·go_enter Tryz.func233, Tryz.ntmps233
   go_wp2
   go_ret
   exact ⟨Cvl.ret_int (by unfold inst; rw [if_neg h1, if_neg h2]), rfl⟩
theorem rinst_any (d s k o v : Int) (d1 : -1000000000 ≤ d) (d2 : d ≤ 1000000000) (s1 : 0 ≤ s) (s2 : s ≤ 86400) (o1 : -50400 ≤ o) (o2 : o ≤ 50400) (v1 : 0 ≤ v) (v2 : v ≤ 7200) (w : World) :
  Calls Tryz.prog 208 #[vi ki d, vi ki s, .int .u8 k, vi ki o, vi ki v] w fun e w' => e = zr (vi ki (inst d s k o v)) ∧ w' = w := by
 by_cases h1 : k = 117
 ·subst h1
  go_enter Tryz.func208, Tryz.ntmps208
  go_wp2
  go_ret
  exact ⟨Cvl.ret_int (by unfold inst; simp), rfl⟩
 ·by_cases h2 : k = 115
  ·subst h2
   go_enter Tryz.func208, Tryz.ntmps208
   go_wp2
   go_ret
   exact ⟨Cvl.ret_int (by unfold inst; simp), rfl⟩
  ·go_enter Tryz.func208, Tryz.ntmps208
   go_wp2
   go_ret
   exact ⟨Cvl.ret_int (by unfold inst; rw [if_neg h1, if_neg h2]), rfl⟩
def YAt (t y : Int) : Prop :=
 (Cvl.can (t / 86400 - 10957) = true ∧ Cv.S y ≤ t / 86400 - 10957 ∧ t / 86400 - 10957 < Cv.S (y + 1)) ∨ (Cvl.can (t / 86400 - 10957) = false ∧ t < 0 ∧ y = -4718) ∨ (Cvl.can (t / 86400 - 10957) = false ∧ 0 ≤ t ∧ y = 294282)
theorem yat_is (t : Int) : ∃ y, YAt t y := by
 cases h : Cvl.can (t / 86400 - 10957)
 ·by_cases h0 : t < 0
  ·exact ⟨_, .inr (.inl ⟨h, h0, rfl⟩)⟩
  ·exact ⟨_, .inr (.inr ⟨h, by omega, rfl⟩)⟩
 ·obtain ⟨y, h1, h2⟩ := Cv.year_is (t / 86400 - 10957)
  exact ⟨y, .inl ⟨h, h1, h2⟩⟩
theorem yat_run (t q y : Int) (ms : Value) (ds : Value) (er : Int) (h1 : -9223372036854775808 ≤ t) (h2 : t ≤ 9223372036854775807) (hq : q = t / 86400)
  (D : Hid (∀ w : World, Cvl.Lens w → Calls Tryz.prog 126 #[vi ki (q - 10957)] w fun e w' => e = zr (.tuple #[vi ki y, ms, ds, vi ki er]) ∧ w' = w))
  (x : Int) (hx : (er = 0 ∧ x = y) ∨ (er = 10 ∧ t < 0 ∧ x = -4718) ∨ (er = 10 ∧ 0 ≤ t ∧ x = 294282)) (w : World) (hL : Hid (Cvl.Lens w)) :
  Calls Tryz.prog 124 #[vi ki t] w fun e w' => e = zr (vi ki x) ∧ w' = w := by
 have q1 : -200000000000000 ≤ q := by omega
 have q2 : q ≤ 200000000000000 := by omega
 by_cases hm : t.tmod 86400 < 0
 ·have e1 := Cvl.div_down (a := t) (b := 86400) (by decide) hm
  have e2 : t.tdiv 86400 = q + 1 := by omega
  clear e1 hq
  rcases hx with ⟨rfl, rfl⟩ | ⟨rfl, h0, rfl⟩ | ⟨rfl, h0, rfl⟩
  ·go_enter Tryz.func124, Tryz.ntmps124
   go_wp2_with fail
   refine (D.out _ hL.out).mono ?_
   rintro e w1 ⟨rfl, rfl⟩
   go_wp2
   go_ret
   exact ⟨rfl, rfl⟩
  ·go_enter Tryz.func124, Tryz.ntmps124
   go_wp2_with fail
   refine (D.out _ hL.out).mono ?_
   rintro e w1 ⟨rfl, rfl⟩
   go_wp2
   go_ret
   exact ⟨rfl, rfl⟩
  ·have h0' : ¬ t < 0 := by omega
   exact absurd hm (by have := Int.tmod_nonneg 86400 h0; omega)
 ·have e1 := Cvl.div_same (a := t) (b := 86400) (by decide) hm
  have e2 : t.tdiv 86400 = q := by omega
  clear e1 hq
  rcases hx with ⟨rfl, rfl⟩ | ⟨rfl, h0, rfl⟩ | ⟨rfl, h0, rfl⟩
  ·go_enter Tryz.func124, Tryz.ntmps124
   go_wp2_with fail
   refine (D.out _ hL.out).mono ?_
   rintro e w1 ⟨rfl, rfl⟩
   go_wp2
   go_ret
   exact ⟨rfl, rfl⟩
  ·go_enter Tryz.func124, Tryz.ntmps124
   go_wp2_with fail
   refine (D.out _ hL.out).mono ?_
   rintro e w1 ⟨rfl, rfl⟩
   go_wp2
   go_ret
   exact ⟨rfl, rfl⟩
  ·have h0' : ¬ t < 0 := by omega
   go_enter Tryz.func124, Tryz.ntmps124
   go_wp2_with fail
   refine (D.out _ hL.out).mono ?_
   rintro e w1 ⟨rfl, rfl⟩
   go_wp2
   go_ret
   exact ⟨rfl, rfl⟩
theorem yat_any (t y : Int) (h : YAt t y) (h1 : -9223372036854775808 ≤ t) (h2 : t ≤ 9223372036854775807) (w : World) (hL : Cvl.Lens w) :
  Calls Tryz.prog 124 #[vi ki t] w fun e w' => e = zr (vi ki y) ∧ w' = w := by
 rcases h with ⟨a, b, c⟩ | ⟨a, b, c⟩ | ⟨a, b, c⟩
 ·obtain ⟨y', m, d, hd⟩ := Cv.is_date (t / 86400 - 10957)
  obtain ⟨i1, i2⟩ := Cv.is_year hd
  obtain rfl := Cv.year_one b c i1 i2
  exact yat_run t (t / 86400) y (vi ki m) (vi ki d) 0 h1 h2 rfl (fun w hw => Cvl.date_yes _ y m d a hd w hw) y (.inl ⟨rfl, rfl⟩) w hL
 ·exact yat_run t (t / 86400) 0 (vi ki 0) (vi ki 0) 10 h1 h2 rfl (fun w hw => Cvl.date_no _ a w) y (.inr (.inl ⟨rfl, b, c⟩)) w hL
 ·exact yat_run t (t / 86400) 0 (vi ki 0) (vi ki 0) 10 h1 h2 rfl (fun w hw => Cvl.date_no _ a w) y (.inr (.inr ⟨rfl, b, c⟩)) w hL
theorem ryat_run (t q y : Int) (ms : Value) (ds : Value) (er : Int) (h1 : -9223372036854775808 ≤ t) (h2 : t ≤ 9223372036854775807) (hq : q = t / 86400)
  (D : Hid (∀ w : World, Calls Tryz.prog 106 #[vi ki (q - 10957)] w fun e w' => e = zr (.tuple #[vi ki y, ms, ds, vi ki er]) ∧ w' = w))
  (x : Int) (hx : (er = 0 ∧ x = y ∧ ¬ q - 10957 < -2453698) ∨ (q - 10957 < -2453698 ∧ x = -4718) ∨ (er = 10 ∧ ¬ q - 10957 < -2453698 ∧ x = 294282)) (w : World) :
  Calls Tryz.prog 54 #[vi ki t] w fun e w' => e = zr (vi ki x) ∧ w' = w := by
 have q1 : -200000000000000 ≤ q := by omega
 have q2 : q ≤ 200000000000000 := by omega
 by_cases hm : t.tmod 86400 < 0
 ·have e1 := Cvl.div_down (a := t) (b := 86400) (by decide) hm
  have e2 : t.tdiv 86400 = q + 1 := by omega
  clear e1 hq
  rcases hx with ⟨rfl, rfl, h0⟩ | ⟨h0, rfl⟩ | ⟨rfl, h0, rfl⟩ <;>
  ·go_enter Tryz.func54, Tryz.ntmps54
   go_wp2_with (first | (go_at_call 105; refine (Cvl.rfirst_any _).mono ?_; rintro e w1 ⟨rfl, rfl⟩) | (go_at_call 106; refine (D.out _).mono ?_; rintro e w1 ⟨rfl, rfl⟩))
   go_ret
   exact ⟨rfl, rfl⟩
 ·have e1 := Cvl.div_same (a := t) (b := 86400) (by decide) hm
  have e2 : t.tdiv 86400 = q := by omega
  clear e1 hq
  rcases hx with ⟨rfl, rfl, h0⟩ | ⟨h0, rfl⟩ | ⟨rfl, h0, rfl⟩ <;>
  ·go_enter Tryz.func54, Tryz.ntmps54
   go_wp2_with (first | (go_at_call 105; refine (Cvl.rfirst_any _).mono ?_; rintro e w1 ⟨rfl, rfl⟩) | (go_at_call 106; refine (D.out _).mono ?_; rintro e w1 ⟨rfl, rfl⟩))
   go_ret
   exact ⟨rfl, rfl⟩
theorem ryat_any (t y : Int) (h : YAt t y) (h1 : -9223372036854775808 ≤ t) (h2 : t ≤ 9223372036854775807) (w : World) :
  Calls Tryz.prog 54 #[vi ki t] w fun e w' => e = zr (vi ki y) ∧ w' = w := by
 rcases h with ⟨a, b, c⟩ | ⟨a, b, c⟩ | ⟨a, b, c⟩
 ·obtain ⟨y', m, d, hd⟩ := Cv.is_date (t / 86400 - 10957)
  obtain ⟨i1, i2⟩ := Cv.is_year hd
  obtain rfl := Cv.year_one b c i1 i2
  have := (Cvl.of_can a).1
  exact ryat_run t (t / 86400) y (vi ki m) (vi ki d) 0 h1 h2 rfl (fun w => Cvl.rdate_yes _ y m d a hd w) y (.inl ⟨rfl, rfl, by omega⟩) w
 ·have : t / 86400 - 10957 < -2453698 := by
   have hc := of_decide_eq_false a
   omega
  exact ryat_run t (t / 86400) 0 (vi ki 0) (vi ki 0) 10 h1 h2 rfl (fun w => Cvl.rdate_no _ a w) y (.inr (.inl ⟨this, c⟩)) w
 ·have : ¬ t / 86400 - 10957 < -2453698 := by omega
  exact ryat_run t (t / 86400) 0 (vi ki 0) (vi ki 0) 10 h1 h2 rfl (fun w => Cvl.rdate_no _ a w) y (.inr (.inr ⟨rfl, this, c⟩)) w
def far (m n : Int) : Bool := decide (2 ≤ (if n ≤ m then m - n else n - m) ∧ (if n ≤ m then m - n else n - m) ≤ 10)
theorem apart_any (m n : Int) (m1 : 1 ≤ m) (m2 : m ≤ 12) (n1 : 1 ≤ n) (n2 : n ≤ 12) (w : World) :
  Calls Tryz.prog 218 #[vi ki m, vi ki n] w fun e w' => e = zr (.bool (far m n)) ∧ w' = w := by
 go_enter Tryz.func218, Tryz.ntmps218
 go_wp2
 all_goals go_ret
 all_goals refine ⟨Cvl.ret_bool ?_, rfl⟩
 all_goals unfold far
 all_goals first | exact (decide_eq_false (by split <;> omega)).symm | exact decide_eq_decide.2 (by split <;> omega)
end Go.Proofs.YtklehbmghjcmaaaGreatDoor.Fn
namespace Go.Proofs.YtklehbmghjcmaaaGreatDoor
open Go.RowKit Sr
def zeF : List Value := [.bool false, vi ki 0, vi ki 0, vi ki 0, vi ki 0, vi ki 0, vi ki 0, vi ki 0, .int .u8 0, vi ki 0, .string ⟨#[]⟩, vi ki 0, vi ki 0, vi ki 0, vi ki 0, vi ki 0, .int .u8 0, vi ki 0, .string ⟨#[]⟩]
def bkS (sv : Value) : List TrR → List Nat
 | [] => []
 | _ :: _ => match sv with | .slice (some a) _ _ => [a.block] | _ => []
def OkN (sv : Value) (L : List TrR) (W : World) : Prop := TrAt W sv L ∧ Cvl.Lens W
theorem OkN.okS (sv : Value) (L : List TrR) : OkS (1 :: bkS sv L) (OkN sv L) := by
 refine ⟨fun W W' h hs hk => ⟨?_, ?_⟩, fun W h k hk => ?_, fun W h => h⟩
 ·obtain ⟨⟨h1, h2, h3⟩, _⟩ := h
  refine ⟨h1, h2, h3.imp_right ?_⟩
  rintro ⟨g, o, c, e, hg, hc⟩
  refine ⟨g, o, c, e, Nat.lt_of_lt_of_le hg hs, fun j u hj => ?_⟩
  cases L with
  | nil => simp [trCs] at hj
  | cons x l => exact (World.cell?_of_block (w := W) (hk g (by subst e; simp [bkS]))).trans (hc j u hj)
 ·exact fun i hi => (World.cell?_of_block (w := W) (hk _ (by simp))).trans (h.2 i hi)
 ·rcases List.mem_cons.1 hk with rfl | hk
  ·have := h.2 0 (by decide)
   exact World.block_lt_of_cell? W _ this
  ·cases L with
   | nil => simp [bkS] at hk
   | cons x l =>
    obtain ⟨_, _, h3⟩ := h.1
    rcases h3 with h3 | ⟨g, o, c, e, hg, hc⟩
    ·cases h3
    ·subst e; simp [bkS] at hk; omega
theorem OkN.below {sv : Value} {L : List TrR} {W W' : World} (h : OkN sv L W) (hb : Below W.heap.size W W') : OkN sv L W' := (OkN.okS sv L).below h hb
structure NoF (f : TrR) (L : List TrR) : Prop where
 h1 : f.at_ = 0
 h2 : offB f.off = true
 h3 : L.length ≤ 4096
 h4 : ∀ j, j < L.length → OkTr L j
theorem NoF.rises {f : TrR} {L : List TrR} (h : NoF f L) : Zm.Rises (L.map (·.at_)) := rises_of L (fun j p x hp hx => by
 obtain ⟨x', e, _, _, _, k⟩ := h.h4 (j + 1) (List.getElem?_eq_some_iff.1 hx).1
 rw [hx] at e; cases e
 rcases k with k | ⟨p', e, k⟩
 ·omega
 ·rw [Nat.add_sub_cancel, hp] at e; cases e; exact k)
theorem nright (nm : ByteArray) (f : TrR) (sv : Value) (L : List TrR) (h : NoF f L) (w : World) (HT : TrAt w sv L) :
  Calls Tryz.prog 31 #[.agg (tbF nm f sv zeF).toArray] w fun e w' => e = zr (.bool true) ∧ Below w.heap.size w w' :=
 right_gen nm f sv zeF rfl L true true false h.h1 h.h2 h.h3 (fun ⟨j, hj, k⟩ => absurd (h.h4 j hj) k) (fun _ => rfl) (fun W => by kernel_rfl) w HT (fun k => by cases k)
def ask (t : Int) : Prop := -9223372036854775808 ≤ t ∧ t ≤ 9223372036854775807 ∧ ∃ y, Fn.YAt t y ∧ askY y = true
theorem nat_ (nm : ByteArray) (f : TrR) (sv : Value) (L : List TrR) (h : NoF f L) (t : Int) (ht : ask t) (w : World) (HO : OkN sv L w) :
  Calls Tryz.prog 33 #[.agg (tbF nm f sv zeF).toArray, vi ki t] w fun r w' => r = zr (.tuple #[trV (curT f L (Zm.cntLe t (L.map (·.at_)))), vi ki 0]) ∧ Below w.heap.size w w' := by
 obtain ⟨t1, t2, y, hy, ha⟩ := ht
 have R := zat_any nm f sv zeF rfl false 0 t rfl rfl L true (fun _ => ⟨h.rises, h.h3⟩) y zTr 0 w HO.1
  (fun W hb => nright nm f sv L h W (HO.1.mv hb)) (fun W hb => Fn.yat_any t y hy t1 t2 W (HO.below hb).2) (fun _ _ k => by cases k)
 unfold atP atE at R
 rw [if_pos rfl, if_pos rfl, if_pos ha, if_pos ha, if_neg (fun q => absurd q.1 (by decide))] at R
 exact R
def stsN (f : TrR) (L : List TrR) (x : Int) : List Zm.St := Zm.strs (x - 57600) (x + 57600 + 1) (curT f L (Zm.cntLe (x - 57600) (L.map (·.at_)))).off ((Zm.chg (x - 57600) (x + 57600) L).map fun c => (c.at_, c.off))
theorem strs_len (e : Int) : ∀ (l : List (Int × Int)) (a o : Int), (Zm.strs a e o l).length = l.length + 1
 | [], _, _ => rfl
 | c :: l, a, o => by rw [Zm.strs, List.length_cons, strs_len e l, List.length_cons]
theorem strs_off (e : Int) (P : Int → Prop) : ∀ (l : List (Int × Int)) (a o : Int), P o → (∀ c ∈ l, P c.2) → ∀ s ∈ Zm.strs a e o l, P s.o
 | [], a, o, h, _, s, hs => by simp [Zm.strs] at hs; rw [hs]; exact h
 | c :: l, a, o, h, hl, s, hs => by
  rw [Zm.strs] at hs
  rcases List.mem_cons.1 hs with rfl | hs
  ·exact h
  ·exact strs_off e P l c.1 c.2 (hl c List.mem_cons_self) (fun d hd => hl d (List.mem_cons_of_mem _ hd)) s hs
theorem tw_sub {p : TrR → Bool} : ∀ (l : List TrR), (l.takeWhile p).length ≤ l.length ∧ ∀ x ∈ l.takeWhile p, x ∈ l
 | [] => ⟨Nat.le_refl _, fun x h => h⟩
 | a :: l => by
  obtain ⟨h1, h2⟩ := tw_sub (p := p) l
  by_cases h : p a = true
  ·rw [List.takeWhile_cons_of_pos h]
   refine ⟨by simpa using h1, fun x hx => ?_⟩
   rcases List.mem_cons.1 hx with rfl | hx
   ·exact List.mem_cons_self
   ·exact List.mem_cons_of_mem _ (h2 x hx)
  ·rw [List.takeWhile_cons_of_neg h]
   exact ⟨Nat.zero_le _, fun x hx => by cases hx⟩
theorem offB_bd {o : Int} (h : offB o = true) : -57600 ≤ o ∧ o ≤ 57600 := by unfold offB at h; simp at h; exact h
theorem NoF.off {f : TrR} {L : List TrR} (h : NoF f L) {x : TrR} (hx : x ∈ L) : -57600 ≤ x.off ∧ x.off ≤ 57600 := by
 obtain ⟨j, hj⟩ := List.getElem?_of_mem hx
 obtain ⟨x', e, k, _⟩ := h.h4 j (List.getElem?_eq_some_iff.1 hj).1
 rw [hj] at e; cases e
 exact offB_bd k
theorem cur_mem (f : TrR) (L : List TrR) (i : Nat) : curT f L i = f ∨ curT f L i ∈ L := by
 unfold curT
 split
 ·exact .inl rfl
 ·rw [List.getD_eq_getElem?_getD]
  cases h : L[i - 1]? with
  | none => exact .inl rfl
  | some x => exact .inr (List.mem_of_getElem? h)
theorem NoF.cur {f : TrR} {L : List TrR} (h : NoF f L) (i : Nat) : -57600 ≤ (curT f L i).off ∧ (curT f L i).off ≤ 57600 := by
 rcases cur_mem f L i with e | e
 ·rw [e]; exact offB_bd h.h2
 ·exact h.off e
theorem nin_ (nm : ByteArray) (f : TrR) (ao : Option Addr) (n c : Nat) (hnc : n ≤ c) (L : List TrR) (hn : L.length = n) (h : NoF f L) (x : Int) (h0 : ask x) (h1 : ask (x - 57600)) (h2 : ask (x + 57600)) (x1 : -1000000000000000 ≤ x) (x2 : x ≤ 1000000000000000) (w : World) (HO : OkN (.slice ao n c) L w) :
  Calls Tryz.prog 40 #[.agg (tbF nm f (.slice ao n c) zeF).toArray, vi ki x] w fun r w' => r = zr (.tuple #[vi ki (inV (Zm.pGo x (stsN f L x) (⟨0, 0, 0⟩, ⟨0, 0, 0⟩))), vi ki (inH (Zm.pGo x (stsN f L x) (⟨0, 0, 0⟩, ⟨0, 0, 0⟩))), vi ki 0]) ∧ Below w.heap.size w w' := by
 have hS := OkN.okS (.slice ao n c) L
 have AS : ∀ t, ask t → ∀ W : World, Below w.heap.size w W → Calls Tryz.prog 78 #[vi ki t] W fun r w' => r = zr (.bool true) ∧ w' = W := fun t ⟨t1, t2, y, hy, ha⟩ W hb => by
  have R := asked_any t y W (Fn.yat_any t y hy t1 t2 W (HO.below hb).2)
  rw [ha] at R
  exact R
 refine zin_yes _ (tbF_len rfl) x x1 x2 _ w (fun W hb => nright nm f _ L h W (HO.1.mv hb)) (AS _ h0) (AS _ h1) (AS _ h2) (fun W hb => ?_)
 have hl : (stsN f L x).length = (Zm.chg (x - 57600) (x + 57600) L).length + 1 := by unfold stsN; rw [strs_len, List.length_map]
 have hcl : (Zm.chg (x - 57600) (x + 57600) L).length ≤ L.length := Nat.le_trans (tw_sub _).1 (by rw [List.length_drop]; omega)
 have hcm : ∀ c ∈ Zm.chg (x - 57600) (x + 57600) L, c ∈ L := fun c hc => List.mem_of_mem_drop ((tw_sub _).2 c hc)
 refine hear_any _ (tbF_len rfl) _ _ hS x x1 x2 (stsN f L x) (by rw [hl]; have := h.h3; omega) ?_ ?_ W (HO.below hb)
 ·exact strs_off _ (fun o => -57600 ≤ o ∧ o ≤ 57600) _ _ _ (h.cur _) (fun c hc => by obtain ⟨d, hd, rfl⟩ := List.mem_map.1 hc; exact h.off (hcm d hd))
 ·intro V b m hm hV X1 X2 X3
  rw [hl]
  refine strs_seq _ (tbF_len rfl) _ _ hS (x - 57600) (x + 57600 + 1) (by omega) (by omega) (curT f L (Zm.cntLe (x - 57600) (L.map (·.at_)))) (Zm.chg (x - 57600) (x + 57600) L) (fun U hU => ?_) (fun U b m hU Z1 Z2 Z3 => ?_) V m hm _ _ _ X1 X2 X3 hV
  ·have R := stand_any nm f (.slice ao n c) zeF rfl false 0 (x - 57600) rfl rfl L h.rises h.h3 zTr 0 U hU.1 (fun k => by cases k)
   rw [if_neg (fun q => absurd q.1 (by decide))] at R
   exact R
  ·rw [show x + 57600 + 1 - 1 = x + 57600 by omega] at Z3
   exact chs_no _ (tbF_len rfl) _ _ hS (x - 57600) (x + 57600) ao n c hnc L rfl rfl h.rises h.h3 hn (fun V hV => hV.1) U m b (b + 1) (b + 2) Z1 Z2 Z3 hU
end Go.Proofs.YtklehbmghjcmaaaGreatDoor
