import Derived.Test.YtklehbmghjcmaaaGreatDoorRz
import Derived.Test.YtklehbmghjcmaaaGreatDoorR8
import Derived.Test.YtklehbmghjcmaaaGreatDoorR6
import Derived.Test.YtklehbmghjcmaaaGreatDoorR7
import Derived.Test.YtklehbmghjcmaaaGreatDoorR1
import Derived.Laws.AppendOwn
import Derived.Test.YtklehbmghjcmaaaGreatDoorRows
import Derived.WalkKit
import Derived.WalkSpells
import Derived.WalkLawsBesides
import Derived.Shelf.Small.Wraps
import Derived.Shelf.Strconv.Itoa0
import Derived.Shelf.Strconv.Itoa1
import Derived.Shelf.LaysM
import Derived.Shelf.Strconv.Itoa2
import Derived.Shelf.Strconv.Itoa3
import Derived.Shelf.Strconv.Itoa4
import Derived.Shelf.Strings.Prefix
import Derived.Shelf.Bits.Mul64
import Derived.Test.YtklehbmghjcmaaaGreatDoorProg
open Go.Value renaming int → vi
open Go.IntKind renaming i64 → ki
open List renaming setIfInBounds_toArray → zb, set_cons_zero → zc, set_cons_succ → zd
open Go.Act renaming put → za
open Go.Ending renaming returned → zr
set_option maxRecDepth 100000
set_option maxHeartbeats 16000000
set_option linter.unusedVariables false
namespace Go.Proofs.YtklehbmghjcmaaaGreatDoor
open Go.RowKit
def dyA (m k d n : Int) : Prop := okOn k d n ∧ 1 ≤ m ∧ m ≤ 12
instance (m k d n : Int) : Decidable (dyA m k d n) := by unfold dyA; infer_instance
def dyY (y : Int) : Prop := -4718 < y ∧ y < 294282
instance (y : Int) : Decidable (dyY y) := by unfold dyY; infer_instance
def fst1 (y m : Int) : Int := Cv.S y + Cv.cum y m
def dyV (y m k d n : Int) : Int := if dyA m k d n then (if dyY y then dayN (fst1 y m) (Cv.len y m) k d n else 0) else 0
def dyE (y m k d n : Int) : Int := if dyA m k d n then (if dyY y then 0 else 10) else 1
theorem first_right {y m : Int} (hy : dyY y) (h1 : 1 ≤ m) (h2 : m ≤ 12) : Cvl.right y m 1 = true := by
 have l := Cv.len_01 y m h1 h2
 unfold dyY at hy
 exact Cvl.right_yes (by omega)
theorem fst1_bd {y m : Int} (hy : dyY y) (h1 : 1 ≤ m) (h2 : m ≤ 12) : -1000000000 ≤ fst1 y m - 1000 ∧ fst1 y m + 1000 ≤ 1000000000 := by
 unfold dyY at hy
 have c := Cv.cum_bd y m
 unfold fst1 Cv.S
 omega
theorem day_arg (y m k d n : Int) (f : Value) (hf : f = .nilIface ∨ ∃ t v, f = .iface t v)
  (F : Hid (∀ w : World, Calls Tryz.prog 224 #[onV k d n] w fun e w' => e = .returned f ∧ Below w.heap.size w w')) (h : f = .nilIface ∨ m < 1 ∨ 12 < m) (w : World) :
  Calls Tryz.prog 221 #[vi ki y, vi ki m, onV k d n] w fun e w' => e = zr (.tuple #[vi ki 0, vi ki 1]) ∧ Below w.heap.size w w' := by
 unfold onV at *
 have HB : Hid (Below w.heap.size w (w.alloc (.cells #[vi ki k, vi ki d, vi ki n] 37))) := (Below.refl _ _).alloc (Nat.le_refl _) _
 rcases hf with rfl | ⟨t, v, rfl⟩
 ·clear h
  go_enter Tryz.func221, Tryz.ntmps221
  go_wp2_with fail
  refine (F.out _).mono ?_
  rintro e w1 ⟨rfl, hb⟩
  have HB1 : Hid (Below w.heap.size w w1) := HB.out.trans (hb.mono HB.out.size)
  clear hb
  go_wp2
  go_ret2
  exact ⟨rfl, HB1.out⟩
 ·have h' : m < 1 ∨ 12 < m := h.resolve_left (fun e => by cases e)
  clear h
  rcases h' with h | h
  ·go_enter Tryz.func221, Tryz.ntmps221
   go_wp2_with fail
   refine (F.out _).mono ?_
   rintro e w1 ⟨rfl, hb⟩
   have HB1 : Hid (Below w.heap.size w w1) := HB.out.trans (hb.mono HB.out.size)
   clear hb
   go_wp2
   go_ret2
   exact ⟨rfl, HB1.out⟩
  ·have h2 : ¬ m < 1 := by omega
   go_enter Tryz.func221, Tryz.ntmps221
   go_wp2_with fail
   refine (F.out _).mono ?_
   rintro e w1 ⟨rfl, hb⟩
   have HB1 : Hid (Below w.heap.size w w1) := HB.out.trans (hb.mono HB.out.size)
   clear hb
   go_wp2
   go_ret2
   exact ⟨rfl, HB1.out⟩
theorem day_range (y m k d n : Int) (t : TypeId) (v : Value)
  (F : Hid (∀ w : World, Calls Tryz.prog 224 #[onV k d n] w fun e w' => e = zr (.iface t v) ∧ Below w.heap.size w w')) (h1 : ¬ m < 1) (h2 : ¬ 12 < m) (h : y ≤ -4718 ∨ 294282 ≤ y) (w : World) :
  Calls Tryz.prog 221 #[vi ki y, vi ki m, onV k d n] w fun e w' => e = zr (.tuple #[vi ki 0, vi ki 10]) ∧ Below w.heap.size w w' := by
 unfold onV at *
 have HB : Hid (Below w.heap.size w (w.alloc (.cells #[vi ki k, vi ki d, vi ki n] 37))) := (Below.refl _ _).alloc (Nat.le_refl _) _
 rcases h with h | h
 ·go_enter Tryz.func221, Tryz.ntmps221
  go_wp2_with fail
  refine (F.out _).mono ?_
  rintro e w1 ⟨rfl, hb⟩
  have HB1 : Hid (Below w.heap.size w w1) := HB.out.trans (hb.mono HB.out.size)
  clear hb
  go_wp2
  go_ret2
  exact ⟨rfl, HB1.out⟩
 ·have h3 : ¬ y ≤ -4718 := by omega
  go_enter Tryz.func221, Tryz.ntmps221
  go_wp2_with fail
  refine (F.out _).mono ?_
  rintro e w1 ⟨rfl, hb⟩
  have HB1 : Hid (Below w.heap.size w w1) := HB.out.trans (hb.mono HB.out.size)
  clear hb
  go_wp2
  go_ret2
  exact ⟨rfl, HB1.out⟩
theorem Lens_below {w w' : World} {b : Nat} (h : Cvl.Lens w) (hb : Below b w w') (h0 : 1 < b) : Cvl.Lens w' := fun i hi => (hb.cell (p := ⟨1, i, none⟩) h0).trans (h i hi)
theorem Lens_lt {w : World} (h : Cvl.Lens w) : 1 < w.heap.size := by
 have := h 0 (by decide)
 by_cases hlt : 1 < w.heap.size
 ·exact hlt
 ·have e : w.heap[1]? = none := Array.getElem?_eq_none (by omega)
  simp [World.cell?, e] at this
theorem day_good (y m k d n F L V : Int) (t : TypeId) (v : Value)
  (FO : Hid (∀ w : World, Calls Tryz.prog 224 #[onV k d n] w fun e w' => e = zr (.iface t v) ∧ Below w.heap.size w w'))
  (DY : Hid (∀ w : World, Cvl.Lens w → Calls Tryz.prog 192 #[vi ki y, vi ki m, vi ki 1] w fun e w' => e = zr (.tuple #[vi ki F, vi ki 0]) ∧ w' = w))
  (LN : Hid (∀ w : World, Cvl.Lens w → Calls Tryz.prog 172 #[vi ki y, vi ki m] w fun e w' => e = zr (vi ki L) ∧ w' = w))
  (DO : Hid (∀ w : World, Calls Tryz.prog 225 #[.iface t v, vi ki F, vi ki L] w fun e w' => e = zr (vi ki V) ∧ Below w.heap.size w w'))
  (h1 : ¬ m < 1) (h2 : ¬ 12 < m) (h3 : ¬ y ≤ -4718) (h4 : ¬ 294282 ≤ y) (w : World) (hL : Hid (Cvl.Lens w)) :
  Calls Tryz.prog 221 #[vi ki y, vi ki m, onV k d n] w fun e w' => e = zr (.tuple #[vi ki V, vi ki 0]) ∧ Below w.heap.size w w' := by
 unfold onV at *
 have HB : Hid (Below w.heap.size w (w.alloc (.cells #[vi ki k, vi ki d, vi ki n] 37))) := (Below.refl _ _).alloc (Nat.le_refl _) _
 go_enter Tryz.func221, Tryz.ntmps221
 go_wp2_with fail
 refine (FO.out _).mono ?_
 rintro e w1 ⟨rfl, hb⟩
 have HB1 : Hid (Below w.heap.size w w1) := HB.out.trans (hb.mono HB.out.size)
 have HL1 : Hid (Cvl.Lens w1) := Lens_below hL.out HB1.out (Lens_lt hL.out)
 clear hb
 go_wp2_with fail
 refine (DY.out _ HL1.out).mono ?_
 rintro e w2 ⟨rfl, rfl⟩
 go_wp2_with fail
 refine (LN.out _ HL1.out).mono ?_
 rintro e w3 ⟨rfl, rfl⟩
 go_wp2_with fail
 refine (DO.out _).mono ?_
 rintro e w4 ⟨rfl, hb⟩
 have HB2 : Hid (Below w.heap.size w w4) := HB1.out.trans (hb.mono HB1.out.size)
 clear hb
 go_wp2
 go_ret2
 exact ⟨rfl, HB2.out⟩
theorem formV_is (k d n : Int) : ∃ t v, formV k d n = .iface t v := by
 unfold formV
 split
 ·exact ⟨_, _, rfl⟩
 ·split <;> exact ⟨_, _, rfl⟩
theorem day_any (y m k d n : Int) (w : World) (hL : Cvl.Lens w) :
  Calls Tryz.prog 221 #[vi ki y, vi ki m, onV k d n] w fun e w' => e = zr (.tuple #[vi ki (dyV y m k d n), vi ki (dyE y m k d n)]) ∧ Below w.heap.size w w' := by
 unfold dyV dyE
 by_cases ho : okOn k d n
 ·obtain ⟨t, v, hv⟩ := formV_is k d n
  have FO := formOf_yes k d n ho
  rw [hv] at FO
  by_cases hm : 1 ≤ m ∧ m ≤ 12
  ·have ha : dyA m k d n := ⟨ho, hm.1, hm.2⟩
   rw [if_pos ha, if_pos ha]
   by_cases hy : dyY y
   ·rw [if_pos hy, if_pos hy]
    have bd := fst1_bd hy hm.1 hm.2
    have lb := Cv.len_bd y m
    have DO := dayOf_any (fst1 y m) (Cv.len y m) k d n ho (by omega) (by omega) lb.1 lb.2
    rw [hv] at DO
    unfold dyY at hy
    refine day_good y m k d n (fst1 y m) (Cv.len y m) _ t v FO (fun w hw => ?_) (fun w hw => Cvl.len_any y m w hw) DO (by omega) (by omega) (by omega) (by omega) w hL
    have R := Cvl.days_yes y m 1 (first_right (y := y) hy hm.1 hm.2) w hw
    rw [show Cv.S y + Cv.cum y m + 1 - 1 = fst1 y m by unfold fst1; omega] at R
    exact R
   ·rw [if_neg hy, if_neg hy]
    unfold dyY at hy
    exact day_range y m k d n t v FO (by omega) (by omega) (by omega) w
  ·have ha : ¬ dyA m k d n := fun q => hm q.2
   rw [if_neg ha, if_neg ha]
   exact day_arg y m k d n _ (.inr ⟨t, v, rfl⟩) FO (by omega) w
 ·have ha : ¬ dyA m k d n := fun q => ho q.1
  rw [if_neg ha, if_neg ha]
  exact day_arg y m k d n _ (.inl rfl) (formOf_no k d n ho) (.inl rfl) w
end Go.Proofs.YtklehbmghjcmaaaGreatDoor
namespace Go.Proofs.YtklehbmghjcmaaaGreatDoor.Fn
open Go.RowKit
def inst (d s k o v : Int) : Int := if k = 117 then (d + 10957) * 86400 + s else if k = 115 then (d + 10957) * 86400 + s - o else (d + 10957) * 86400 + s - o - v
theorem inst_any (d s k o v : Int) (d1 : -1000000000 ≤ d) (d2 : d ≤ 1000000000) (s1 : 0 ≤ s) (s2 : s ≤ 86400) (o1 : -50400 ≤ o) (o2 : o ≤ 50400) (v1 : 0 ≤ v) (v2 : v ≤ 7200) (w : World) :
  Calls Tryz.prog 233 #[vi ki d, vi ki s, .int .u8 k, vi ki o, vi ki v] w fun e w' => e = zr (vi ki (inst d s k o v)) ∧ w' = w := by
 by_cases h1 : k = 117
 ·subst h1
  go_enter Tryz.func233, Tryz.ntmps233
  go_wp2
  go_ret
  exact ⟨Cvl.ret_int (by unfold inst; simp), rfl⟩
 ·by_cases h2 : k = 115
  ·subst h2
   go_enter Tryz.func233, Tryz.ntmps233
   go_wp2
   go_ret
   exact ⟨Cvl.ret_int (by unfold inst; simp), rfl⟩
  ·go_enter Tryz.func233, Tryz.ntmps233
   go_wp2
   go_ret
   exact ⟨Cvl.ret_int (by unfold inst; rw [if_neg h1, if_neg h2]), rfl⟩
def YAt (t y : Int) : Prop :=
 (Cvl.can (t / 86400 - 10957) = true ∧ Cv.S y ≤ t / 86400 - 10957 ∧ t / 86400 - 10957 < Cv.S (y + 1)) ∨ (Cvl.can (t / 86400 - 10957) = false ∧ t < 0 ∧ y = -4718) ∨ (Cvl.can (t / 86400 - 10957) = false ∧ 0 ≤ t ∧ y = 294282)
theorem yat_is (t : Int) : ∃ y, YAt t y := by
 cases h : Cvl.can (t / 86400 - 10957)
 ·by_cases h0 : t < 0
  ·exact ⟨_, .inr (.inl ⟨h, h0, rfl⟩)⟩
  ·exact ⟨_, .inr (.inr ⟨h, by omega, rfl⟩)⟩
 ·obtain ⟨y, h1, h2⟩ := Cv.year_is (t / 86400 - 10957)
  exact ⟨y, .inl ⟨h, h1, h2⟩⟩
theorem yat_run (t q y : Int) (ms : Value) (ds : Value) (er : Int) (h1 : -9223372036854775808 ≤ t) (h2 : t ≤ 9223372036854775807) (hq : q = t / 86400)
  (D : Hid (∀ w : World, Cvl.Lens w → Calls Tryz.prog 126 #[vi ki (q - 10957)] w fun e w' => e = zr (.tuple #[vi ki y, ms, ds, vi ki er]) ∧ w' = w))
  (x : Int) (hx : (er = 0 ∧ x = y) ∨ (er = 10 ∧ t < 0 ∧ x = -4718) ∨ (er = 10 ∧ 0 ≤ t ∧ x = 294282)) (w : World) (hL : Hid (Cvl.Lens w)) :
  Calls Tryz.prog 124 #[vi ki t] w fun e w' => e = zr (vi ki x) ∧ w' = w := by
 have q1 : -200000000000000 ≤ q := by omega
 have q2 : q ≤ 200000000000000 := by omega
 by_cases hm : t.tmod 86400 < 0
 ·have e1 := Cvl.div_down (a := t) (b := 86400) (by decide) hm
  have e2 : t.tdiv 86400 = q + 1 := by omega
  clear e1 hq
  rcases hx with ⟨rfl, rfl⟩ | ⟨rfl, h0, rfl⟩ | ⟨rfl, h0, rfl⟩
  ·go_enter Tryz.func124, Tryz.ntmps124
   go_wp2_with fail
   refine (D.out _ hL.out).mono ?_
   rintro e w1 ⟨rfl, rfl⟩
   go_wp2
   go_ret
   exact ⟨rfl, rfl⟩
  ·go_enter Tryz.func124, Tryz.ntmps124
   go_wp2_with fail
   refine (D.out _ hL.out).mono ?_
   rintro e w1 ⟨rfl, rfl⟩
   go_wp2
   go_ret
   exact ⟨rfl, rfl⟩
  ·have h0' : ¬ t < 0 := by omega
   exact absurd hm (by have := Int.tmod_nonneg 86400 h0; omega)
 ·have e1 := Cvl.div_same (a := t) (b := 86400) (by decide) hm
  have e2 : t.tdiv 86400 = q := by omega
  clear e1 hq
  rcases hx with ⟨rfl, rfl⟩ | ⟨rfl, h0, rfl⟩ | ⟨rfl, h0, rfl⟩
  ·go_enter Tryz.func124, Tryz.ntmps124
   go_wp2_with fail
   refine (D.out _ hL.out).mono ?_
   rintro e w1 ⟨rfl, rfl⟩
   go_wp2
   go_ret
   exact ⟨rfl, rfl⟩
  ·go_enter Tryz.func124, Tryz.ntmps124
   go_wp2_with fail
   refine (D.out _ hL.out).mono ?_
   rintro e w1 ⟨rfl, rfl⟩
   go_wp2
   go_ret
   exact ⟨rfl, rfl⟩
  ·have h0' : ¬ t < 0 := by omega
   go_enter Tryz.func124, Tryz.ntmps124
   go_wp2_with fail
   refine (D.out _ hL.out).mono ?_
   rintro e w1 ⟨rfl, rfl⟩
   go_wp2
   go_ret
   exact ⟨rfl, rfl⟩
theorem yat_any (t y : Int) (h : YAt t y) (h1 : -9223372036854775808 ≤ t) (h2 : t ≤ 9223372036854775807) (w : World) (hL : Cvl.Lens w) :
  Calls Tryz.prog 124 #[vi ki t] w fun e w' => e = zr (vi ki y) ∧ w' = w := by
 rcases h with ⟨a, b, c⟩ | ⟨a, b, c⟩ | ⟨a, b, c⟩
 ·obtain ⟨y', m, d, hd⟩ := Cv.is_date (t / 86400 - 10957)
  obtain ⟨i1, i2⟩ := Cv.is_year hd
  obtain rfl := Cv.year_one b c i1 i2
  exact yat_run t (t / 86400) y (vi ki m) (vi ki d) 0 h1 h2 rfl (fun w hw => Cvl.date_yes _ y m d a hd w hw) y (.inl ⟨rfl, rfl⟩) w hL
 ·exact yat_run t (t / 86400) 0 (vi ki 0) (vi ki 0) 10 h1 h2 rfl (fun w hw => Cvl.date_no _ a w) y (.inr (.inl ⟨rfl, b, c⟩)) w hL
 ·exact yat_run t (t / 86400) 0 (vi ki 0) (vi ki 0) 10 h1 h2 rfl (fun w hw => Cvl.date_no _ a w) y (.inr (.inr ⟨rfl, b, c⟩)) w hL
def far (m n : Int) : Bool := decide (2 ≤ (if n ≤ m then m - n else n - m) ∧ (if n ≤ m then m - n else n - m) ≤ 10)
theorem apart_any (m n : Int) (m1 : 1 ≤ m) (m2 : m ≤ 12) (n1 : 1 ≤ n) (n2 : n ≤ 12) (w : World) :
  Calls Tryz.prog 218 #[vi ki m, vi ki n] w fun e w' => e = zr (.bool (far m n)) ∧ w' = w := by
 go_enter Tryz.func218, Tryz.ntmps218
 go_wp2
 all_goals go_ret
 all_goals refine ⟨Cvl.ret_bool ?_, rfl⟩
 all_goals unfold far
 all_goals first | exact (decide_eq_false (by split <;> omega)).symm | exact decide_eq_decide.2 (by split <;> omega)
end Go.Proofs.YtklehbmghjcmaaaGreatDoor.Fn
namespace Go.Proofs.YtklehbmghjcmaaaGreatDoor
open Go.RowKit Sr
def zeF : List Value := [.bool false, vi ki 0, vi ki 0, vi ki 0, vi ki 0, vi ki 0, vi ki 0, vi ki 0, .int .u8 0, vi ki 0, .string ⟨#[]⟩, vi ki 0, vi ki 0, vi ki 0, vi ki 0, vi ki 0, .int .u8 0, vi ki 0, .string ⟨#[]⟩]
def bkS (sv : Value) : List TrR → List Nat
 | [] => []
 | _ :: _ => match sv with | .slice (some a) _ _ => [a.block] | _ => []
def OkN (sv : Value) (L : List TrR) (W : World) : Prop := TrAt W sv L ∧ Cvl.Lens W
theorem OkN.okS (sv : Value) (L : List TrR) : OkS (1 :: bkS sv L) (OkN sv L) := by
 refine ⟨fun W W' h hs hk => ⟨?_, ?_⟩, fun W h k hk => ?_, fun W h => h⟩
 ·obtain ⟨⟨h1, h2, h3⟩, _⟩ := h
  refine ⟨h1, h2, h3.imp_right ?_⟩
  rintro ⟨g, o, c, e, hg, hc⟩
  refine ⟨g, o, c, e, Nat.lt_of_lt_of_le hg hs, fun j u hj => ?_⟩
  cases L with
  | nil => simp [trCs] at hj
  | cons x l => exact (World.cell?_of_block (w := W) (hk g (by subst e; simp [bkS]))).trans (hc j u hj)
 ·exact fun i hi => (World.cell?_of_block (w := W) (hk _ (by simp))).trans (h.2 i hi)
 ·rcases List.mem_cons.1 hk with rfl | hk
  ·have := h.2 0 (by decide)
   exact World.block_lt_of_cell? W _ this
  ·cases L with
   | nil => simp [bkS] at hk
   | cons x l =>
    obtain ⟨_, _, h3⟩ := h.1
    rcases h3 with h3 | ⟨g, o, c, e, hg, hc⟩
    ·cases h3
    ·subst e; simp [bkS] at hk; omega
theorem OkN.below {sv : Value} {L : List TrR} {W W' : World} (h : OkN sv L W) (hb : Below W.heap.size W W') : OkN sv L W' := (OkN.okS sv L).below h hb
structure NoF (f : TrR) (L : List TrR) : Prop where
 h1 : f.at_ = 0
 h2 : offB f.off = true
 h3 : L.length ≤ 4096
 h4 : ∀ j, j < L.length → OkTr L j
theorem NoF.rises {f : TrR} {L : List TrR} (h : NoF f L) : Zm.Rises (L.map (·.at_)) := rises_of L (fun j p x hp hx => by
 obtain ⟨x', e, _, _, _, k⟩ := h.h4 (j + 1) (List.getElem?_eq_some_iff.1 hx).1
 rw [hx] at e; cases e
 rcases k with k | ⟨p', e, k⟩
 ·omega
 ·rw [Nat.add_sub_cancel, hp] at e; cases e; exact k)
theorem nright (nm : ByteArray) (f : TrR) (sv : Value) (L : List TrR) (h : NoF f L) (w : World) (HT : TrAt w sv L) :
  Calls Tryz.prog 31 #[.agg (tbF nm f sv zeF).toArray] w fun e w' => e = zr (.bool true) ∧ Below w.heap.size w w' :=
 right_gen nm f sv zeF rfl L true true false h.h1 h.h2 h.h3 (fun ⟨j, hj, k⟩ => absurd (h.h4 j hj) k) (fun _ => rfl) (fun W => by kernel_rfl) w HT (fun k => by cases k)
def ask (t : Int) : Prop := -9223372036854775808 ≤ t ∧ t ≤ 9223372036854775807 ∧ ∃ y, Fn.YAt t y ∧ askY y = true
theorem nat_ (nm : ByteArray) (f : TrR) (sv : Value) (L : List TrR) (h : NoF f L) (t : Int) (ht : ask t) (w : World) (HO : OkN sv L w) :
  Calls Tryz.prog 33 #[.agg (tbF nm f sv zeF).toArray, vi ki t] w fun r w' => r = zr (.tuple #[trV (curT f L (Zm.cntLe t (L.map (·.at_)))), vi ki 0]) ∧ Below w.heap.size w w' := by
 obtain ⟨t1, t2, y, hy, ha⟩ := ht
 have R := zat_any nm f sv zeF rfl false 0 t rfl rfl L true (fun _ => ⟨h.rises, h.h3⟩) y zTr 0 w HO.1
  (fun W hb => nright nm f sv L h W (HO.1.mv hb)) (fun W hb => Fn.yat_any t y hy t1 t2 W (HO.below hb).2) (fun _ _ k => by cases k)
 unfold atP atE at R
 rw [if_pos rfl, if_pos rfl, if_pos ha, if_pos ha, if_neg (fun q => absurd q.1 (by decide))] at R
 exact R
def stsN (f : TrR) (L : List TrR) (x : Int) : List Zm.St := Zm.strs (x - 57600) (x + 57600 + 1) (curT f L (Zm.cntLe (x - 57600) (L.map (·.at_)))).off ((Zm.chg (x - 57600) (x + 57600) L).map fun c => (c.at_, c.off))
theorem strs_len (e : Int) : ∀ (l : List (Int × Int)) (a o : Int), (Zm.strs a e o l).length = l.length + 1
 | [], _, _ => rfl
 | c :: l, a, o => by rw [Zm.strs, List.length_cons, strs_len e l, List.length_cons]
theorem strs_off (e : Int) (P : Int → Prop) : ∀ (l : List (Int × Int)) (a o : Int), P o → (∀ c ∈ l, P c.2) → ∀ s ∈ Zm.strs a e o l, P s.o
 | [], a, o, h, _, s, hs => by simp [Zm.strs] at hs; rw [hs]; exact h
 | c :: l, a, o, h, hl, s, hs => by
  rw [Zm.strs] at hs
  rcases List.mem_cons.1 hs with rfl | hs
  ·exact h
  ·exact strs_off e P l c.1 c.2 (hl c List.mem_cons_self) (fun d hd => hl d (List.mem_cons_of_mem _ hd)) s hs
theorem tw_sub {p : TrR → Bool} : ∀ (l : List TrR), (l.takeWhile p).length ≤ l.length ∧ ∀ x ∈ l.takeWhile p, x ∈ l
 | [] => ⟨Nat.le_refl _, fun x h => h⟩
 | a :: l => by
  obtain ⟨h1, h2⟩ := tw_sub (p := p) l
  by_cases h : p a = true
  ·rw [List.takeWhile_cons_of_pos h]
   refine ⟨by simpa using h1, fun x hx => ?_⟩
   rcases List.mem_cons.1 hx with rfl | hx
   ·exact List.mem_cons_self
   ·exact List.mem_cons_of_mem _ (h2 x hx)
  ·rw [List.takeWhile_cons_of_neg h]
   exact ⟨Nat.zero_le _, fun x hx => by cases hx⟩
theorem offB_bd {o : Int} (h : offB o = true) : -57600 ≤ o ∧ o ≤ 57600 := by unfold offB at h; simp at h; exact h
theorem NoF.off {f : TrR} {L : List TrR} (h : NoF f L) {x : TrR} (hx : x ∈ L) : -57600 ≤ x.off ∧ x.off ≤ 57600 := by
 obtain ⟨j, hj⟩ := List.getElem?_of_mem hx
 obtain ⟨x', e, k, _⟩ := h.h4 j (List.getElem?_eq_some_iff.1 hj).1
 rw [hj] at e; cases e
 exact offB_bd k
theorem cur_mem (f : TrR) (L : List TrR) (i : Nat) : curT f L i = f ∨ curT f L i ∈ L := by
 unfold curT
 split
 ·exact .inl rfl
 ·rw [List.getD_eq_getElem?_getD]
  cases h : L[i - 1]? with
  | none => exact .inl rfl
  | some x => exact .inr (List.mem_of_getElem? h)
theorem NoF.cur {f : TrR} {L : List TrR} (h : NoF f L) (i : Nat) : -57600 ≤ (curT f L i).off ∧ (curT f L i).off ≤ 57600 := by
 rcases cur_mem f L i with e | e
 ·rw [e]; exact offB_bd h.h2
 ·exact h.off e
theorem nin_ (nm : ByteArray) (f : TrR) (ao : Option Addr) (n c : Nat) (hnc : n ≤ c) (L : List TrR) (hn : L.length = n) (h : NoF f L) (x : Int) (h0 : ask x) (h1 : ask (x - 57600)) (h2 : ask (x + 57600)) (x1 : -1000000000000000 ≤ x) (x2 : x ≤ 1000000000000000) (w : World) (HO : OkN (.slice ao n c) L w) :
  Calls Tryz.prog 40 #[.agg (tbF nm f (.slice ao n c) zeF).toArray, vi ki x] w fun r w' => r = zr (.tuple #[vi ki (inV (Zm.pGo x (stsN f L x) (⟨0, 0, 0⟩, ⟨0, 0, 0⟩))), vi ki (inH (Zm.pGo x (stsN f L x) (⟨0, 0, 0⟩, ⟨0, 0, 0⟩))), vi ki 0]) ∧ Below w.heap.size w w' := by
 have hS := OkN.okS (.slice ao n c) L
 have AS : ∀ t, ask t → ∀ W : World, Below w.heap.size w W → Calls Tryz.prog 78 #[vi ki t] W fun r w' => r = zr (.bool true) ∧ w' = W := fun t ⟨t1, t2, y, hy, ha⟩ W hb => by
  have R := asked_any t y W (Fn.yat_any t y hy t1 t2 W (HO.below hb).2)
  rw [ha] at R
  exact R
 refine zin_yes _ (tbF_len rfl) x x1 x2 _ w (fun W hb => nright nm f _ L h W (HO.1.mv hb)) (AS _ h0) (AS _ h1) (AS _ h2) (fun W hb => ?_)
 have hl : (stsN f L x).length = (Zm.chg (x - 57600) (x + 57600) L).length + 1 := by unfold stsN; rw [strs_len, List.length_map]
 have hcl : (Zm.chg (x - 57600) (x + 57600) L).length ≤ L.length := Nat.le_trans (tw_sub _).1 (by rw [List.length_drop]; omega)
 have hcm : ∀ c ∈ Zm.chg (x - 57600) (x + 57600) L, c ∈ L := fun c hc => List.mem_of_mem_drop ((tw_sub _).2 c hc)
 refine hear_any _ (tbF_len rfl) _ _ hS x x1 x2 (stsN f L x) (by rw [hl]; have := h.h3; omega) ?_ ?_ W (HO.below hb)
 ·exact strs_off _ (fun o => -57600 ≤ o ∧ o ≤ 57600) _ _ _ (h.cur _) (fun c hc => by obtain ⟨d, hd, rfl⟩ := List.mem_map.1 hc; exact h.off (hcm d hd))
 ·intro V b m hm hV X1 X2 X3
  rw [hl]
  refine strs_seq _ (tbF_len rfl) _ _ hS (x - 57600) (x + 57600 + 1) (by omega) (by omega) (curT f L (Zm.cntLe (x - 57600) (L.map (·.at_)))) (Zm.chg (x - 57600) (x + 57600) L) (fun U hU => ?_) (fun U b m hU Z1 Z2 Z3 => ?_) V m hm _ _ _ X1 X2 X3 hV
  ·have R := stand_any nm f (.slice ao n c) zeF rfl false 0 (x - 57600) rfl rfl L h.rises h.h3 zTr 0 U hU.1 (fun k => by cases k)
   rw [if_neg (fun q => absurd q.1 (by decide))] at R
   exact R
  ·rw [show x + 57600 + 1 - 1 = x + 57600 by omega] at Z3
   exact chs_no _ (tbF_len rfl) _ _ hS (x - 57600) (x + 57600) ao n c hnc L rfl rfl h.rises h.h3 hn (fun V hV => hV.1) U m b (b + 1) (b + 2) Z1 Z2 Z3 hU
def nmB : ByteArray := ⟨#[69, 117, 114, 111, 112, 101, 47, 66, 101, 114, 108, 105, 110]⟩
def fB : TrR := ⟨0, 3600, false, ⟨#[67, 69, 84]⟩⟩
def LB : List TrR := [⟨1711846800, 7200, true, ⟨#[67, 69, 83, 84]⟩⟩, ⟨1729990800, 3600, false, ⟨#[67, 69, 84]⟩⟩]
def zeT : List Value := tbF ⟨#[]⟩ ⟨0, 0, false, ⟨#[]⟩⟩ (.slice none 0 0) zeF
theorem one_b (ao : Option Addr) (n c : Nat) : (tbF nmB fB (.slice ao n c) zeF).toArray.all (·.oneCell') = true := by
 simp [tbF, trC, zeF, nmB, fB, Value.oneCell']
theorem TrAt.offB {W : World} {g o n c b i : Nat} {v : Value} {L : List TrR} (h : TrAt W (.slice (some ⟨g, o, none⟩) n c) L) (hg : g ≠ b) : TrAt (W.setCell ⟨b, i, none⟩ v) (.slice (some ⟨g, o, none⟩) n c) L := by
 obtain ⟨h1, h2, h3⟩ := h
 refine ⟨h1, h2, h3.imp_right ?_⟩
 rintro ⟨g', o', c', e, hg', hc⟩
 have e0 := e
 simp only [Value.slice.injEq, Option.some.injEq, Addr.mk.injEq] at e
 obtain ⟨⟨rfl, rfl, _⟩, _, rfl⟩ := e
 exact ⟨_, _, _, e0, by simpa using hg', fun j u hj => (World.cell?_setCell_other _ _ _ _ (fun q => hg (by cases q; rfl))).trans (hc j u hj)⟩
theorem results_c1 {P : Program} {fn : Func} {p : Tmp} {ty : TypeId} (h : fn.results = #[.cell p ty]) (tmps : Array Value) (w : World) (a : Addr) (v : Value) (hp : tmps[p]?.getD undef = .pointer (some a)) (hl : (loadVar ty a).run P w = .ok v w) :
  (results fn tmps).run P w = .ok v w := by
 simp [results, h, hp, asAddr, hl]
theorem infoT9 : (Tryz.prog.info? 23).map (fun i => (i.zero, i.size, i.bytes)) = some (some (.agg #[vi ki 0, vi ki 0, .bool false, .string ⟨#[]⟩]), 4, 40) := by kernel_rfl
theorem cells_new9 (w : World) (l : List Value) (t : TypeId) : ∀ j u, l[j]? = some u → (w.alloc (.cells l.toArray t)).cell? ((⟨w.heap.size, 0, none⟩ : Addr).add j) = some u := fun j u hu => by
 have := (Bx.new w l t).c j hu
 unfold Addr.add
 split
 ·rename_i h; subst h; exact this
 ·simpa using this
theorem OkB.okS (sv : Value) (L : List TrR) : OkS (bkS sv L) (fun W => TrAt W sv L) := by
 refine ⟨fun W W' h hs hk => ?_, fun W h k hk => ?_, fun W h => h⟩
 ·obtain ⟨h1, h2, h3⟩ := h
  refine ⟨h1, h2, h3.imp_right ?_⟩
  rintro ⟨g, o, c, e, hg, hc⟩
  refine ⟨g, o, c, e, Nat.lt_of_lt_of_le hg hs, fun j u hj => ?_⟩
  cases L with
  | nil => simp [trCs] at hj
  | cons x l => exact (World.cell?_of_block (w := W) (hk g (by subst e; simp [bkS]))).trans (hc j u hj)
 ·cases L with
  | nil => simp [bkS] at hk
  | cons x l =>
   obtain ⟨_, _, h3⟩ := h
   rcases h3 with h3 | ⟨g, o, c, e, hg, hc⟩
   ·cases h3
   ·subst e; simp [bkS] at hk; omega
theorem berlin_any (w : World) : Calls Tryz.prog 42 #[] w fun e w' => ∃ ao c, e = zr (.agg (tbF nmB fB (.slice ao 2 c) zeF).toArray) ∧ 2 ≤ c ∧ TrAt w' (.slice ao 2 c) LB ∧ Below w.heap.size w w' := by
 have X0 : Hid (Bx ((w.alloc (.cells zeT.toArray 44)).alloc (.cells zeT.toArray 44)) w.heap.size zeT) := (Bx.new w zeT _).alloc _
 have X1 : Hid (Bx ((w.alloc (.cells zeT.toArray 44)).alloc (.cells zeT.toArray 44)) (w.heap.size + 1) zeT) := Bx.newAt _ zeT _ _ (by simp)
 have B1 : Hid (Below w.heap.size w ((w.alloc (.cells zeT.toArray 44)).alloc (.cells zeT.toArray 44))) := ((Below.refl _ _).alloc (Nat.le_refl _) _).alloc (by simp) _
 go_enter Tryz.func42, Tryz.ntmps42
 go_upto_region 2 with (refine wpList_store_mid rfl 44 _ _ rfl (w.heap.size + 1) 0 (tbF nmB fB (.slice none 0 0) zeF).toArray rfl rfl X1.out.there (by kernel_rfl) (one_b _ _ _) ?_; refine gen_list (fun V => Bx V w.heap.size zeT ∧ Bx V (w.heap.size + 1) (tbF nmB fB (.slice none 0 0) zeF) ∧ Below w.heap.size w V) ⟨X0.out.setOther (by omega) _, X1.out.setAll _ rfl, below_setCells (by omega) _ _ _ B1.out⟩ ?_; clear X0 X1 B1; rintro V ⟨X0', X1', B1'⟩; have X0 : Hid (Bx V w.heap.size zeT) := X0'; have X1 : Hid (Bx V (w.heap.size + 1) (tbF nmB fB (.slice none 0 0) zeF)) := X1'; have B1 : Hid (Below w.heap.size w V) := B1'; clear X0' X1' B1')
 obtain ⟨i1, hi1, hy0, hy1, hy2⟩ := info_parts infoT9
 have c5 := X1.out.c 5 rfl
 have hbs := B1.out.size
 have hl1 := X1.out.1
 go_upto_region 3 with (at_builtin; refine wpList_append_own _ rfl _ _ 24 rfl (V.heap.size + 1) 23 i1 (.agg #[vi ki 0, vi ki 0, .bool false, .string ⟨#[]⟩]) 4 40 Tryz.underlying24 hi1 hy0 hy1 hy2 rfl (by decide) (.slice none 0 0) 0 [] rfl (World.ownsRow_nil _ _ _ _) ⟨V.heap.size, 0, none⟩ 2 2 (trCs LB) rfl rfl (cells_new9 V (trCs LB) 23) (trCs_one LB) (by unfold maxLen; omega) (by omega) (by simp) ?_; intro v' w9 hown' hgrow' _; obtain ⟨g', cap', hv'⟩ := ownsRow_succ hown'; subst hv'; have hb9 : Below V.heap.size V w9 := ⟨hgrow'.os, hgrow'.tape, hgrow'.output, Nat.le_trans (by simp) hgrow'.size, fun k hk => (hgrow'.block k (by simp; omega) (by simp [Value.ownBlock])).trans (Below.heap_alloc _ _ _ hk)⟩; have X9 := X1.out.below hb9; have c9 := X9.c 5 rfl; have z9 := X9.f 5 (v := .slice none 0 0) rfl)
 have hg9 : V.heap.size + 1 ≤ g' := by
  rcases hown'.2 with ⟨e, _⟩ | ⟨g, cap, cur, e, hb, _⟩
  ·cases e
  ·cases e; exact hb
 have hcap : 2 ≤ cap' := by
  rcases hown'.2 with ⟨e, _⟩ | ⟨g, cap, cur, e, hb, hh, h1, _⟩
  ·cases e
  ·cases e; exact h1
 have HTR : TrAt w9 (.slice (some ⟨g', 0, none⟩) 2 cap') LB := TrAt.of_own (L := LB) hown'
 refine gen_code (fun U => Bx U w.heap.size zeT ∧ Bx U (w.heap.size + 1) (tbF nmB fB (.slice (some ⟨g', 0, none⟩) 2 cap') zeF) ∧ TrAt U (.slice (some ⟨g', 0, none⟩) 2 cap') LB ∧ Below w.heap.size w U) ⟨bx_turns (X0.out.below hb9) (Turns.setCell (M := [w.heap.size + 1]) _ _ _ (by simp)) (by simp), bx_set1 X9 5 (.slice (some ⟨g', 0, none⟩) 2 cap') (by rw [tbF_len rfl]; decide), HTR.offB (by omega), (B1.out.trans (hb9.mono hbs)).setCell (p := ⟨w.heap.size + 1, 5, none⟩) (by simp) _⟩ ?_
 clear HTR X9 c9 z9 hb9 hgrow' hown' c5 X0 X1 B1
 rintro U ⟨X0', X1', HT', B1'⟩
 have X0 : Hid (Bx U w.heap.size zeT) := X0'
 have X1 : Hid (Bx U (w.heap.size + 1) (tbF nmB fB (.slice (some ⟨g', 0, none⟩) 2 cap') zeF)) := X1'
 have B1 : Hid (Below w.heap.size w U ∧ TrAt U (.slice (some ⟨g', 0, none⟩) 2 cap') LB) := ⟨B1', HT'⟩
 clear X0' X1' HT' B1'
 go_wp2_with (first | (refine wpList_load_mid rfl 44 _ rfl (w.heap.size + 1) 0 rfl (tbF nmB fB (.slice (some ⟨g', 0, none⟩) 2 cap') zeF) _ X1.out.all Tryz.underlying44 rfl (by kernel_rfl) ?_) | (refine wpList_store_mid rfl 44 _ _ rfl w.heap.size 0 (tbF nmB fB (.slice (some ⟨g', 0, none⟩) 2 cap') zeF).toArray rfl rfl X0.out.there (by kernel_rfl) (one_b _ _ _) ?_; refine gen_list (fun Z => Bx Z w.heap.size (tbF nmB fB (.slice (some ⟨g', 0, none⟩) 2 cap') zeF) ∧ TrAt Z (.slice (some ⟨g', 0, none⟩) 2 cap') LB ∧ Below w.heap.size w Z) ⟨X0.out.setAll _ rfl, ?_, below_setCells (Nat.le_refl _) _ _ _ B1.out.1⟩ ?_) | fail)
 ·exact ((OkB.okS _ _).keep _ _ B1.out.2 (by rw [setCells_size]; exact Nat.le_refl _) (fun k hk => by simp [bkS, LB] at hk; subst hk; exact (turns_setCells _ _ _ _).block _ (by have := B1.out.2; obtain ⟨_, _, h3⟩ := this; rcases h3 with h3 | ⟨g, o, c, e, hg, _⟩; cases h3; cases e; exact hg) (by simp; omega)))
 ·rintro Z XZ TZ BZ
  go_wp2_with fail
  exact bodyPost_ret (v := .agg (tbF nmB fB (.slice (some ⟨g', 0, none⟩) 2 cap') zeF).toArray) (results_c1 rfl _ _ _ _ rfl (run_loadVar_mid _ _ _ _ _ _ XZ.all Tryz.underlying44 rfl (by kernel_rfl))) rfl ⟨_, _, rfl, hcap, TZ, BZ⟩
end Go.Proofs.YtklehbmghjcmaaaGreatDoor
namespace Go.Proofs.YtklehbmghjcmaaaGreatDoor.Clk
open Go.RowKit
theorem ret_bool {a b : Bool} (h : a = b) : Ending.returned (.bool a) = zr (.bool b) := by rw [h]
def mkOk (h m s us : Int) : Prop := 0 ≤ h ∧ h ≤ 24 ∧ 0 ≤ m ∧ m ≤ 59 ∧ 0 ≤ s ∧ s ≤ 59 ∧ 0 ≤ us ∧ us ≤ 999999 ∧ h * 3600000000 + m * 60000000 + s * 1000000 + us ≤ 86400000000
instance (h m s us : Int) : Decidable (mkOk h m s us) := by unfold mkOk; infer_instance
def mkV (h m s us : Int) : Int := if mkOk h m s us then h * 3600000000 + m * 60000000 + s * 1000000 + us else 0
def mkE (h m s us : Int) : Int := if mkOk h m s us then 0 else 10
theorem parts_out (t : Int) (h : t < 0 ∨ 86400000000 < t) (w : World) :
  Calls Tryz.prog 226 #[vi ki t] w fun e w' => e = zr (.tuple #[vi ki 0, vi ki 0, vi ki 0, vi ki 0, vi ki 10]) ∧ w' = w := by
 rcases h with h | h
 ·go_enter Tryz.func226, Tryz.ntmps226
  go_wp2
  exact bodyPost_ret (v := .tuple #[vi ki 0, vi ki 0, vi ki 0, vi ki 0, vi ki 10]) (by simp [results, Tryz.results226, go_sem]) rfl ⟨rfl, rfl⟩
 ·have h2 : ¬ t < 0 := by omega
  go_enter Tryz.func226, Tryz.ntmps226
  go_wp2
  exact bodyPost_ret (v := .tuple #[vi ki 0, vi ki 0, vi ki 0, vi ki 0, vi ki 10]) (by simp [results, Tryz.results226, go_sem]) rfl ⟨rfl, rfl⟩
theorem parts_in (t H M S U a b : Int) (h1 : 0 ≤ t) (h2 : t ≤ 86400000000) (e1 : t.tdiv 3600000000 = H) (e2 : t.tdiv 60000000 = a) (e3 : a.tmod 60 = M) (e4 : t.tdiv 1000000 = b) (e5 : b.tmod 60 = S) (e6 : t.tmod 1000000 = U)
  (k1 : 0 ≤ H) (k2 : H ≤ 24) (k3 : 0 ≤ a) (k4 : a ≤ 1440) (k5 : 0 ≤ b) (k6 : b ≤ 86400) (w : World) :
  Calls Tryz.prog 226 #[vi ki t] w fun e w' => e = zr (.tuple #[vi ki H, vi ki M, vi ki S, vi ki U, vi ki 0]) ∧ w' = w := by
 have h3 : ¬ t < 0 := by omega
 have h4 : ¬ 86400000000 < t := by omega
 go_enter Tryz.func226, Tryz.ntmps226
 go_wp2
 exact bodyPost_ret (v := .tuple #[vi ki H, vi ki M, vi ki S, vi ki U, vi ki 0]) (by simp [results, Tryz.results226, go_sem]) rfl ⟨rfl, rfl⟩
def isT (t : Int) : Prop := 0 ≤ t ∧ t ≤ 86400000000
instance (t : Int) : Decidable (isT t) := by unfold isT; infer_instance
def tm (x : Int) (t : Int) : Int := if isT t then x else 0
def tmE (t : Int) : Int := if isT t then 0 else 10
theorem parts_any (t : Int) (w : World) :
  Calls Tryz.prog 226 #[vi ki t] w fun e w' => e = zr (.tuple #[vi ki (tm (t / 3600000000) t), vi ki (tm (t / 60000000 % 60) t), vi ki (tm (t / 1000000 % 60) t), vi ki (tm (t % 1000000) t), vi ki (tmE t)]) ∧ w' = w := by
 unfold tm tmE
 by_cases h : isT t
 ·simp only [if_pos h]
  obtain ⟨h1, h2⟩ := h
  have a1 : t.tdiv 60000000 = t / 60000000 := Int.tdiv_eq_ediv_of_nonneg h1
  have b1 : t.tdiv 1000000 = t / 1000000 := Int.tdiv_eq_ediv_of_nonneg h1
  exact parts_in t _ _ _ _ _ _ h1 h2 (Int.tdiv_eq_ediv_of_nonneg h1) a1 (Int.tmod_eq_emod_of_nonneg (by omega)) b1 (Int.tmod_eq_emod_of_nonneg (by omega)) (Int.tmod_eq_emod_of_nonneg h1) (by omega) (by omega) (by omega) (by omega) (by omega) (by omega) w
 ·simp only [if_neg h]
  exact parts_out t (by unfold isT at h; omega) w
end Go.Proofs.YtklehbmghjcmaaaGreatDoor.Clk
namespace Go.Proofs
open Go.Shelf
def Tryz.lays103_ren : Go.Shelf.Ren := ⟨fun | 103 => 232 | 210 => 238 | 206 => 244 | n => n, fun | 9 => 9 | 4 => 4 | 24 => 269 | 3 => 3 | n => n, fun | n => n⟩
theorem Tryz.lays103 : Go.Proofs.Lays.n103 Tryz.prog Tryz.lays103_ren := {
 mixed := by kernel_rfl
 f103 := Tryz.func232.trans (congrArg some (by kernel_rfl))
 f206 := Tryz.func244.trans (congrArg some (by kernel_rfl))
 f210 := Tryz.func238.trans (congrArg some (by kernel_rfl))
 t3 := Tryz.underlying3
 a3 := Tryz.isAgg3
 z3 := Tryz.sizeOf3
 v3 := Tryz.zeroValue3
 t4 := Tryz.underlying4
 a4 := Tryz.isAgg4
 z4 := Tryz.sizeOf4
 v4 := Tryz.zeroValue4
 t9 := Tryz.underlying9
 a9 := Tryz.isAgg9
 z9 := Tryz.sizeOf9
 v9 := Tryz.zeroValue9
 t24 := Tryz.underlying269
 a24 := Tryz.isAgg269
 z24 := Tryz.sizeOf269
 v24 := Tryz.zeroValue269 }
open Go.RowKit in
theorem Tryz.strings_CutPrefix (s p : ByteArray) (w : World) :
  Calls Tryz.prog 232 #[.string s, .string p] w fun e w' => e = zr (.tuple #[.string ⟨(Lib.trimPrefix s.data.toList p.data.toList).toArray⟩, .bool (Lib.hasPrefix s.data.toList p.data.toList)]) ∧ w' = w := Any.strings_CutPrefix Tryz.lays103 s p w
def Tryz.laysM173_ren : Go.Shelf.Ren := ⟨fun | 173 => 227 | 246 => 231 | 283 => 234 | 284 => 235 | 285 => 236 | 286 => 237 | 129 => 240 | 317 => 239 | 318 => 241 | 319 => 242 | 320 => 243 | 337 => 245 | 338 => 246 | n => n, fun | 2 => 2 | 3 => 3 | 9 => 9 | 4 => 4 | 171 => 272 | 0 => 0 | 53 => 203 | 37 => 219 | 5 => 5 | 173 => 275 | 212 => 279 | 51 => 280 | 20 => 20 | 213 => 281 | 46 => 204 | 232 => 284 | 233 => 285 | n => n, fun | 17 => 2 | 18 => 3 | 19 => 4 | n => n⟩
theorem Tryz.laysM173 : Go.Proofs.LaysM.n173 Tryz.prog Tryz.laysM173_ren := {
 mixed := by kernel_rfl
 f129 := Tryz.func240.trans (congrArg some (by kernel_rfl))
 f173 := Tryz.func227.trans (congrArg some (by kernel_rfl))
 f246 := Tryz.func231.trans (congrArg some (by kernel_rfl))
 f283 := Tryz.func234.trans (congrArg some (by kernel_rfl))
 f284 := Tryz.func235.trans (congrArg some (by kernel_rfl))
 f285 := Tryz.func236.trans (congrArg some (by kernel_rfl))
 f286 := Tryz.func237.trans (congrArg some (by kernel_rfl))
 f317 := Tryz.func239.trans (congrArg some (by kernel_rfl))
 f318 := Tryz.func241.trans (congrArg some (by kernel_rfl))
 f319 := Tryz.func242.trans (congrArg some (by kernel_rfl))
 f320 := Tryz.func243.trans (congrArg some (by kernel_rfl))
 f337 := Tryz.func245.trans (congrArg some (by kernel_rfl))
 f338 := Tryz.func246.trans (congrArg some (by kernel_rfl))
 t0 := Tryz.underlying0
 a0 := Tryz.isAgg0
 z0 := Tryz.sizeOf0
 v0 := Tryz.zeroValue0
 t2 := Tryz.underlying2
 a2 := Tryz.isAgg2
 z2 := Tryz.sizeOf2
 v2 := Tryz.zeroValue2
 t3 := Tryz.underlying3
 a3 := Tryz.isAgg3
 z3 := Tryz.sizeOf3
 v3 := Tryz.zeroValue3
 t4 := Tryz.underlying4
 a4 := Tryz.isAgg4
 z4 := Tryz.sizeOf4
 v4 := Tryz.zeroValue4
 t5 := Tryz.underlying5
 a5 := Tryz.isAgg5
 z5 := Tryz.sizeOf5
 v5 := Tryz.zeroValue5
 t9 := Tryz.underlying9
 a9 := Tryz.isAgg9
 z9 := Tryz.sizeOf9
 v9 := Tryz.zeroValue9
 t20 := Tryz.underlying20
 a20 := Tryz.isAgg20
 z20 := Tryz.sizeOf20
 v20 := Tryz.zeroValue20
 t37 := Tryz.underlying219
 a37 := Tryz.isAgg219
 z37 := Tryz.sizeOf219
 v37 := Tryz.zeroValue219
 t46 := Tryz.underlying204
 a46 := Tryz.isAgg204
 z46 := Tryz.sizeOf204
 v46 := Tryz.zeroValue204
 t51 := Tryz.underlying280
 a51 := Tryz.isAgg280
 z51 := Tryz.sizeOf280
 v51 := Tryz.zeroValue280
 t53 := Tryz.underlying203
 a53 := Tryz.isAgg203
 z53 := Tryz.sizeOf203
 v53 := Tryz.zeroValue203
 t171 := Tryz.underlying272
 a171 := Tryz.isAgg272
 z171 := Tryz.sizeOf272
 v171 := Tryz.zeroValue272
 t173 := Tryz.underlying275
 a173 := Tryz.isAgg275
 z173 := Tryz.sizeOf275
 v173 := Tryz.zeroValue275
 t212 := Tryz.underlying279
 a212 := Tryz.isAgg279
 z212 := Tryz.sizeOf279
 v212 := Tryz.zeroValue279
 t213 := Tryz.underlying281
 a213 := Tryz.isAgg281
 z213 := Tryz.sizeOf281
 t232 := Tryz.underlying284
 a232 := Tryz.isAgg284
 z232 := Tryz.sizeOf284
 v232 := Tryz.zeroValue284
 t233 := Tryz.underlying285
 a233 := Tryz.isAgg285
 z233 := Tryz.sizeOf285
 v233 := Tryz.zeroValue285
 g17 := by kernel_rfl
 g18 := by kernel_rfl
 g19 := by kernel_rfl
 i0 := by kernel_rfl
 i2 := by kernel_rfl
 i3 := by kernel_rfl
 i4 := by kernel_rfl
 i5 := by kernel_rfl
 i9 := by kernel_rfl
 i20 := by kernel_rfl
 i37 := by kernel_rfl
 i46 := by kernel_rfl
 i51 := by kernel_rfl
 i53 := by kernel_rfl
 i171 := by kernel_rfl
 i173 := by kernel_rfl
 i212 := by kernel_rfl
 i232 := by kernel_rfl
 i233 := by kernel_rfl
 m17 := by kernel_rfl
 m18 := by kernel_rfl
 m19 := by kernel_rfl }
open Go.RowKit Go.Sort Go.Lib in
theorem Tryz.strconv_FormatInt_10 (n : Int) (h0 : -9223372036854775808 ≤ n) (h1 : n ≤ 9223372036854775807) (w : World) (htab : Lib.TabIs Tryz.prog w "internal/strconv.uint64pow10" .u64 Lib.pow10Tab) :
  Calls Tryz.prog 227 #[vi ki n, vi ki 10] w fun e w' => e = zr (.string ⟨(Lib.itoa n).toArray⟩) ∧ ∃ k os, w' = grow (w.drewN k) os := Any.strconv_FormatInt_10 Tryz.laysM173 n h0 h1 w htab
def Tryz.lays173_ren : Go.Shelf.Ren := ⟨fun | 173 => 227 | 246 => 231 | 283 => 234 | 284 => 235 | 285 => 236 | 286 => 237 | 129 => 240 | 317 => 239 | 318 => 241 | 319 => 242 | 320 => 243 | 337 => 245 | 338 => 246 | n => n, fun | 2 => 2 | 3 => 3 | 9 => 9 | 4 => 4 | 171 => 272 | 0 => 0 | 53 => 203 | 37 => 219 | 5 => 5 | 173 => 275 | 212 => 279 | 51 => 280 | 20 => 20 | 213 => 281 | 46 => 204 | 232 => 284 | 233 => 285 | n => n, fun | 17 => 2 | 18 => 3 | 19 => 4 | n => n⟩
theorem Tryz.lays173 : Go.Proofs.Lays.n173 Tryz.prog Tryz.lays173_ren := {
 mixed := by kernel_rfl
 f129 := Tryz.func240.trans (congrArg some (by kernel_rfl))
 f173 := Tryz.func227.trans (congrArg some (by kernel_rfl))
 f246 := Tryz.func231.trans (congrArg some (by kernel_rfl))
 f283 := Tryz.func234.trans (congrArg some (by kernel_rfl))
 f284 := Tryz.func235.trans (congrArg some (by kernel_rfl))
 f285 := Tryz.func236.trans (congrArg some (by kernel_rfl))
 f286 := Tryz.func237.trans (congrArg some (by kernel_rfl))
 f317 := Tryz.func239.trans (congrArg some (by kernel_rfl))
 f318 := Tryz.func241.trans (congrArg some (by kernel_rfl))
 f319 := Tryz.func242.trans (congrArg some (by kernel_rfl))
 f320 := Tryz.func243.trans (congrArg some (by kernel_rfl))
 f337 := Tryz.func245.trans (congrArg some (by kernel_rfl))
 f338 := Tryz.func246.trans (congrArg some (by kernel_rfl))
 t0 := Tryz.underlying0
 a0 := Tryz.isAgg0
 z0 := Tryz.sizeOf0
 v0 := Tryz.zeroValue0
 t2 := Tryz.underlying2
 a2 := Tryz.isAgg2
 z2 := Tryz.sizeOf2
 v2 := Tryz.zeroValue2
 t3 := Tryz.underlying3
 a3 := Tryz.isAgg3
 z3 := Tryz.sizeOf3
 v3 := Tryz.zeroValue3
 t4 := Tryz.underlying4
 a4 := Tryz.isAgg4
 z4 := Tryz.sizeOf4
 v4 := Tryz.zeroValue4
 t5 := Tryz.underlying5
 a5 := Tryz.isAgg5
 z5 := Tryz.sizeOf5
 v5 := Tryz.zeroValue5
 t9 := Tryz.underlying9
 a9 := Tryz.isAgg9
 z9 := Tryz.sizeOf9
 v9 := Tryz.zeroValue9
 t20 := Tryz.underlying20
 a20 := Tryz.isAgg20
 z20 := Tryz.sizeOf20
 v20 := Tryz.zeroValue20
 t37 := Tryz.underlying219
 a37 := Tryz.isAgg219
 z37 := Tryz.sizeOf219
 v37 := Tryz.zeroValue219
 t46 := Tryz.underlying204
 a46 := Tryz.isAgg204
 z46 := Tryz.sizeOf204
 v46 := Tryz.zeroValue204
 t51 := Tryz.underlying280
 a51 := Tryz.isAgg280
 z51 := Tryz.sizeOf280
 v51 := Tryz.zeroValue280
 t53 := Tryz.underlying203
 a53 := Tryz.isAgg203
 z53 := Tryz.sizeOf203
 v53 := Tryz.zeroValue203
 t171 := Tryz.underlying272
 a171 := Tryz.isAgg272
 z171 := Tryz.sizeOf272
 v171 := Tryz.zeroValue272
 t173 := Tryz.underlying275
 a173 := Tryz.isAgg275
 z173 := Tryz.sizeOf275
 v173 := Tryz.zeroValue275
 t212 := Tryz.underlying279
 a212 := Tryz.isAgg279
 z212 := Tryz.sizeOf279
 v212 := Tryz.zeroValue279
 t213 := Tryz.underlying281
 a213 := Tryz.isAgg281
 z213 := Tryz.sizeOf281
 t232 := Tryz.underlying284
 a232 := Tryz.isAgg284
 z232 := Tryz.sizeOf284
 v232 := Tryz.zeroValue284
 t233 := Tryz.underlying285
 a233 := Tryz.isAgg285
 z233 := Tryz.sizeOf285
 v233 := Tryz.zeroValue285
 g17 := by kernel_rfl
 g18 := by kernel_rfl
 g19 := by kernel_rfl }
open Go.RowKit Go.Sort Go.Lib in
theorem Tryz.strconv_FormatInt_10_small (i : Nat) (hi : i < 100) (w : World) :
  Calls Tryz.prog 227 #[vi ki i, vi ki 10] w fun e w' => e = zr (.string ⟨(Lib.decDigits i).toArray⟩) ∧ w' = w := Any.strconv_FormatInt_10_small Tryz.lays173 i hi w
end Go.Proofs
