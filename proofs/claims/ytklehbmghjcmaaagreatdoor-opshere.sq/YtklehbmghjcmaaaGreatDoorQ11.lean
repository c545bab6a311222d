import Derived.Test.YtklehbmghjcmaaaGreatDoorQz
import Derived.Test.YtklehbmghjcmaaaGreatDoorQ10
import Derived.Test.YtklehbmghjcmaaaGreatDoorQ1
import Derived.Test.YtklehbmghjcmaaaGreatDoorQ6
import Derived.Test.YtklehbmghjcmaaaGreatDoorQ2
import Derived.Laws.StructEq
import Derived.Test.YtklehbmghjcmaaaGreatDoorQ3
import Derived.Test.YtklehbmghjcmaaaGreatDoorQ4
open Go.Value renaming int → vi
open Go.IntKind renaming i64 → ki
open List renaming setIfInBounds_toArray → zb, set_cons_zero → zc, set_cons_succ → zd
open Go.Act renaming put → za
open Go.Ending renaming returned → zr
set_option maxRecDepth 100000
set_option maxHeartbeats 16000000
set_option linter.unusedVariables false
namespace Go.Proofs.YtklehbmghjcmaaaGreatDoor.Fn
open Go.RowKit
theorem rhalf_run (a : Hf) (bO bA : Bool)
  (RO : Hid (∀ w : World, Calls Tryz.prog 211 #[.agg #[vi ki a.k, vi ki a.d, vi ki a.n]] w fun e w' => e = zr (.bool bO) ∧ Below w.heap.size w w'))
  (RA : Hid (∀ w : World, Calls Tryz.prog 212 #[.agg #[vi ki a.s, .int .u8 a.z]] w fun e w' => e = zr (.bool bA) ∧ Below w.heap.size w w'))
  (w : World) :
  Calls Tryz.prog 190 #[.agg #[vi ki a.m, vi ki a.k, vi ki a.d, vi ki a.n, vi ki a.s, .int .u8 a.z, vi ki a.v, .string a.t]] w fun e w' => e = zr (.bool (decide (1 ≤ a.m) && decide (a.m ≤ 12) && bO && bA && decide (0 ≤ a.v) && decide (a.v ≤ 7200))) ∧ Below w.heap.size w w' := by
 have HB : Hid (Below w.heap.size w (w.alloc (.cells #[vi ki a.m, vi ki a.k, vi ki a.d, vi ki a.n, vi ki a.s, .int .u8 a.z, vi ki a.v, .string a.t] 30))) := ((Below.refl _ _).alloc (by simp <;> omega) _)
 have X0 : Hid (Bx (w.alloc (.cells #[vi ki a.m, vi ki a.k, vi ki a.d, vi ki a.n, vi ki a.s, .int .u8 a.z, vi ki a.v, .string a.t] 30)) (w.heap.size) (hL a)) := (Bx.newAt w (hL a) _ _ (by simp))
 by_cases m1 : 1 ≤ a.m
 case neg =>
  rw [decide_eq_false m1]
  go_enter Tryz.func190, Tryz.ntmps190
  go_wp2
  go_ret
  exact ⟨rfl, HB.out⟩
 by_cases m2 : a.m ≤ 12
 case neg =>
  rw [decide_eq_true m1, decide_eq_false m2]
  go_enter Tryz.func190, Tryz.ntmps190
  go_wp2
  go_ret
  exact ⟨rfl, HB.out⟩
 rw [decide_eq_true m1, decide_eq_true m2]
 go_enter Tryz.func190, Tryz.ntmps190
 go_wp2_with fail
 refine (RO.out _).mono ?_
 rintro e w1 ⟨rfl, hb⟩
 have B1 : Hid (Below w.heap.size w w1) := HB.out.trans (hb.mono HB.out.size)
 have X1 : Hid (Bx w1 w.heap.size (hL a)) := X0.out.below hb
 clear hb HB X0 RO
 cases bO
 ·go_wp2
  go_ret
  exact ⟨rfl, B1.out⟩
 have c4 := X1.out.c 4 rfl
 have c5 := X1.out.c 5 rfl
 go_wp2_with fail
 refine (RA.out _).mono ?_
 rintro e w2 ⟨rfl, hb⟩
 have B2 : Hid (Below w.heap.size w w2) := B1.out.trans (hb.mono B1.out.size)
 have c6 := (X1.out.below hb).c 6 rfl
 clear hb B1 X1 RA c4 c5
 cases bA
 ·go_wp2
  go_ret
  exact ⟨rfl, B2.out⟩
 go_wp2
 all_goals go_ret
 all_goals refine ⟨Cvl.ret_bool ?_, B2.out⟩
 all_goals first | (simp; done) | (simp; omega)
theorem rhalf_any (a : Hf) (w : World) :
  Calls Tryz.prog 190 #[.agg #[vi ki a.m, vi ki a.k, vi ki a.d, vi ki a.n, vi ki a.s, .int .u8 a.z, vi ki a.v, .string a.t]] w fun e w' => e = zr (.bool (okH a)) ∧ Below w.heap.size w w' := by
 have key : ∀ bO bA : Bool, (bO = true ↔ okOn a.k a.d a.n) → (bA = true ↔ okAt a.s a.z) → okH a = (decide (1 ≤ a.m) && decide (a.m ≤ 12) && bO && bA && decide (0 ≤ a.v) && decide (a.v ≤ 7200)) := fun bO bA h1 h2 => by
  unfold okH dyA
  rw [Bool.eq_iff_iff]
  simp only [Bool.and_eq_true, decide_eq_true_eq, h1, h2]
  constructor
  ·rintro ⟨⟨q1, q2, q3⟩, q4, q5, q6⟩; exact ⟨⟨⟨⟨⟨q2, q3⟩, q1⟩, q4⟩, q5⟩, q6⟩
  ·rintro ⟨⟨⟨⟨⟨q2, q3⟩, q1⟩, q4⟩, q5⟩, q6⟩; exact ⟨⟨q1, q2, q3⟩, q4, q5, q6⟩
 by_cases h1 : okOn a.k a.d a.n <;> by_cases h2 : okAt a.s a.z
 ·rw [key true true (by simp [h1]) (by simp [h2])]; exact rhalf_run a true true (rightOn_yes a.k a.d a.n h1) (rightAt_yes a.s a.z h2) w
 ·rw [key true false (by simp [h1]) (by simp [h2])]; exact rhalf_run a true false (rightOn_yes a.k a.d a.n h1) (rightAt_no a.s a.z h2) w
 ·rw [key false true (by simp [h1]) (by simp [h2])]; exact rhalf_run a false true (rightOn_no a.k a.d a.n h1) (rightAt_yes a.s a.z h2) w
 ·rw [key false false (by simp [h1]) (by simp [h2])]; exact rhalf_run a false false (rightOn_no a.k a.d a.n h1) (rightAt_no a.s a.z h2) w
theorem rcan_run (f : Ft) (bA bB : Bool) (mb : bA = true → bB = true → 1 ≤ f.A.m ∧ f.A.m ≤ 12 ∧ 1 ≤ f.B.m ∧ f.B.m ≤ 12)
  (IA : Hid (∀ w : World, Calls Tryz.prog 190 #[.agg #[vi ki f.A.m, vi ki f.A.k, vi ki f.A.d, vi ki f.A.n, vi ki f.A.s, .int .u8 f.A.z, vi ki f.A.v, .string f.A.t]] w fun e w' => e = zr (.bool bA) ∧ Below w.heap.size w w'))
  (IB : Hid (∀ w : World, Calls Tryz.prog 190 #[.agg #[vi ki f.B.m, vi ki f.B.k, vi ki f.B.d, vi ki f.B.n, vi ki f.B.s, .int .u8 f.B.z, vi ki f.B.v, .string f.B.t]] w fun e w' => e = zr (.bool bB) ∧ Below w.heap.size w w'))
  (w : World) :
  Calls Tryz.prog 151 #[.agg #[.bool f.h, vi ki f.fr, vi ki f.off, vi ki f.A.m, vi ki f.A.k, vi ki f.A.d, vi ki f.A.n, vi ki f.A.s, .int .u8 f.A.z, vi ki f.A.v, .string f.A.t, vi ki f.B.m, vi ki f.B.k, vi ki f.B.d, vi ki f.B.n, vi ki f.B.s, .int .u8 f.B.z, vi ki f.B.v, .string f.B.t]] w fun e w' => e = zr (.bool (f.h && decide (-50400 ≤ f.off) && decide (f.off ≤ 50400) && bA && bB && far f.A.m f.B.m)) ∧ Below w.heap.size w w' := by
 have HB : Hid (Below w.heap.size w (w.alloc (.cells #[.bool f.h, vi ki f.fr, vi ki f.off, vi ki f.A.m, vi ki f.A.k, vi ki f.A.d, vi ki f.A.n, vi ki f.A.s, .int .u8 f.A.z, vi ki f.A.v, .string f.A.t, vi ki f.B.m, vi ki f.B.k, vi ki f.B.d, vi ki f.B.n, vi ki f.B.s, .int .u8 f.B.z, vi ki f.B.v, .string f.B.t] 32))) := ((Below.refl _ _).alloc (by simp <;> omega) _)
 have X0 : Hid (Bx (w.alloc (.cells #[.bool f.h, vi ki f.fr, vi ki f.off, vi ki f.A.m, vi ki f.A.k, vi ki f.A.d, vi ki f.A.n, vi ki f.A.s, .int .u8 f.A.z, vi ki f.A.v, .string f.A.t, vi ki f.B.m, vi ki f.B.k, vi ki f.B.d, vi ki f.B.n, vi ki f.B.s, .int .u8 f.B.z, vi ki f.B.v, .string f.B.t] 32)) (w.heap.size) (fL f)) := (Bx.newAt w (fL f) _ _ (by simp))
 have MB : Hid (bA = true → bB = true → 1 ≤ f.A.m ∧ f.A.m ≤ 12 ∧ 1 ≤ f.B.m ∧ f.B.m ≤ 12) := mb
 clear mb
 cases hh : f.h
 ·rw [hh] at HB X0
  go_enter Tryz.func151, Tryz.ntmps151
  go_wp2
  go_ret
  exact ⟨rfl, HB.out⟩
 rw [hh] at HB X0
 go_enter Tryz.func151, Tryz.ntmps151
 go_wp2_with fail
 refine (IA.out _).mono ?_
 rintro e w1 ⟨rfl, hb⟩
 have B1 : Hid (Below w.heap.size w w1) := HB.out.trans (hb.mono HB.out.size)
 have X1 : Hid (Bx w1 w.heap.size (fL f)) := X0.out.below hb
 clear hb HB X0 IA
 cases bA
 ·go_wp2
  go_ret
  exact ⟨by simp, B1.out⟩
 have c11 := X1.out.c 11 rfl
 have c12 := X1.out.c 12 rfl
 have c13 := X1.out.c 13 rfl
 have c14 := X1.out.c 14 rfl
 have c15 := X1.out.c 15 rfl
 have c16 := X1.out.c 16 rfl
 have c17 := X1.out.c 17 rfl
 have c18 := X1.out.c 18 rfl
 go_wp2_with fail
 refine (IB.out _).mono ?_
 rintro e w2 ⟨rfl, hb⟩
 have B2 : Hid (Below w.heap.size w w2) := B1.out.trans (hb.mono B1.out.size)
 have d2 := (X1.out.below hb).c 2 rfl
 have d3 := (X1.out.below hb).c 3 rfl
 have d11 := (X1.out.below hb).c 11 rfl
 clear hb B1 X1 IB c11 c12 c13 c14 c15 c16 c17 c18
 cases bB
 ·go_wp2
  go_ret
  exact ⟨by simp, B2.out⟩
 obtain ⟨m1, m2, m3, m4⟩ : 1 ≤ f.A.m ∧ f.A.m ≤ 12 ∧ 1 ≤ f.B.m ∧ f.B.m ≤ 12 := by first | exact MB.out rfl rfl | exact MB.out trivial trivial | exact MB.out trivial rfl | exact MB.out trivial | exact MB.out
 clear MB
 by_cases o1 : -50400 ≤ f.off
 ·by_cases o2 : f.off ≤ 50400
  ·have O1 : Hid (-50400 ≤ f.off) := o1
   have O2 : Hid (f.off ≤ 50400) := o2
   go_wp2
   all_goals go_ret
   all_goals refine ⟨Cvl.ret_bool ?_, B2.out⟩
   all_goals unfold far
   all_goals first | exact (decide_eq_false (by split <;> omega)).symm | exact (decide_eq_true (by split <;> omega)).symm | (rw [decide_eq_true O1.out, decide_eq_true O2.out]; simp only [Bool.true_and, Bool.and_true]; refine decide_eq_decide.2 ?_; split <;> omega)
  ·have O2 : Hid (¬ f.off ≤ 50400) := o2
   go_wp2
   go_ret
   exact ⟨Cvl.ret_bool (by have := O2.out; first | rfl | (simp; done) | (simp; omega)), B2.out⟩
 ·have O1 : Hid (¬ -50400 ≤ f.off) := o1
  go_wp2
  go_ret
  exact ⟨Cvl.ret_bool (by have := O1.out; first | rfl | (simp; done) | (simp; omega)), B2.out⟩
theorem rcan_any (f : Ft) (w : World) :
  Calls Tryz.prog 151 #[.agg #[.bool f.h, vi ki f.fr, vi ki f.off, vi ki f.A.m, vi ki f.A.k, vi ki f.A.d, vi ki f.A.n, vi ki f.A.s, .int .u8 f.A.z, vi ki f.A.v, .string f.A.t, vi ki f.B.m, vi ki f.B.k, vi ki f.B.d, vi ki f.B.n, vi ki f.B.s, .int .u8 f.B.z, vi ki f.B.v, .string f.B.t]] w fun e w' => e = zr (.bool (okF f)) ∧ Below w.heap.size w w' :=
 rcan_run f (okH f.A) (okH f.B) (fun ha hb => by
  have A := (okH_of ha).1
  have B := (okH_of hb).1
  exact ⟨A.2.1, A.2.2, B.2.1, B.2.2⟩) (fun w => rhalf_any f.A w) (fun w => rhalf_any f.B w) w
theorem rshift_run (h g : Hf) (off y V E R : Int)
  (DY : Hid (∀ w : World, Calls Tryz.prog 207 #[vi ki y, vi ki h.m, .agg #[vi ki h.k, vi ki h.d, vi ki h.n]] w fun e w' => e = zr (.tuple #[vi ki V, vi ki E]) ∧ Below w.heap.size w w'))
  (IN : Hid (∀ w : World, Calls Tryz.prog 208 #[vi ki V, vi ki h.s, .int .u8 h.z, vi ki off, vi ki g.v] w fun e w' => e = zr (vi ki R) ∧ w' = w))
  (o1 : -50400 ≤ off) (o2 : off ≤ 50400) (v1 : 0 ≤ h.v) (v2 : h.v ≤ 7200) (w : World) :
  Calls Tryz.prog 182 #[.agg #[vi ki h.m, vi ki h.k, vi ki h.d, vi ki h.n, vi ki h.s, .int .u8 h.z, vi ki h.v, .string h.t], .agg #[vi ki g.m, vi ki g.k, vi ki g.d, vi ki g.n, vi ki g.s, .int .u8 g.z, vi ki g.v, .string g.t], vi ki off, vi ki y] w fun e w' => e = zr (.agg #[vi ki R, vi ki (off + h.v), .bool (h.v != 0), .string h.t]) ∧ Below w.heap.size w w' := by
 have HB : Hid (Below w.heap.size w (((w.alloc (.cells #[vi ki h.m, vi ki h.k, vi ki h.d, vi ki h.n, vi ki h.s, .int .u8 h.z, vi ki h.v, .string h.t] 30)).alloc (.cells #[vi ki g.m, vi ki g.k, vi ki g.d, vi ki g.n, vi ki g.s, .int .u8 g.z, vi ki g.v, .string g.t] 30)).alloc (.cells #[vi ki 0, vi ki 0, .bool false, .string ⟨#[]⟩] 23))) := ((((Below.refl _ _).alloc (by simp <;> omega) _).alloc (by simp <;> omega) _).alloc (by simp <;> omega) _)
 have X0 : Hid (Bx (((w.alloc (.cells #[vi ki h.m, vi ki h.k, vi ki h.d, vi ki h.n, vi ki h.s, .int .u8 h.z, vi ki h.v, .string h.t] 30)).alloc (.cells #[vi ki g.m, vi ki g.k, vi ki g.d, vi ki g.n, vi ki g.s, .int .u8 g.z, vi ki g.v, .string g.t] 30)).alloc (.cells #[vi ki 0, vi ki 0, .bool false, .string ⟨#[]⟩] 23)) (w.heap.size) (hL h)) := (((Bx.newAt w (hL h) _ _ (by simp)).alloc _).alloc _)
 have X1 : Hid (Bx (((w.alloc (.cells #[vi ki h.m, vi ki h.k, vi ki h.d, vi ki h.n, vi ki h.s, .int .u8 h.z, vi ki h.v, .string h.t] 30)).alloc (.cells #[vi ki g.m, vi ki g.k, vi ki g.d, vi ki g.n, vi ki g.s, .int .u8 g.z, vi ki g.v, .string g.t] 30)).alloc (.cells #[vi ki 0, vi ki 0, .bool false, .string ⟨#[]⟩] 23)) (w.heap.size + 1) (hL g)) := ((Bx.newAt (w.alloc (.cells #[vi ki h.m, vi ki h.k, vi ki h.d, vi ki h.n, vi ki h.s, .int .u8 h.z, vi ki h.v, .string h.t] 30)) (hL g) _ _ (by simp)).alloc _)
 have X2 : Hid (Bx (((w.alloc (.cells #[vi ki h.m, vi ki h.k, vi ki h.d, vi ki h.n, vi ki h.s, .int .u8 h.z, vi ki h.v, .string h.t] 30)).alloc (.cells #[vi ki g.m, vi ki g.k, vi ki g.d, vi ki g.n, vi ki g.s, .int .u8 g.z, vi ki g.v, .string g.t] 30)).alloc (.cells #[vi ki 0, vi ki 0, .bool false, .string ⟨#[]⟩] 23)) (w.heap.size + 2) (z4)) := (Bx.newAt ((w.alloc (.cells #[vi ki h.m, vi ki h.k, vi ki h.d, vi ki h.n, vi ki h.s, .int .u8 h.z, vi ki h.v, .string h.t] 30)).alloc (.cells #[vi ki g.m, vi ki g.k, vi ki g.d, vi ki g.n, vi ki g.s, .int .u8 g.z, vi ki g.v, .string g.t] 30)) (z4) _ _ (by simp))
 go_enter Tryz.func182, Tryz.ntmps182
 go_wp2_with fail
 refine (DY.out _).mono ?_
 rintro e w1 ⟨rfl, hb⟩
 have HB1 : Hid (Below w.heap.size w w1) := HB.out.trans (hb.mono HB.out.size)
 have Y0 := X0.out.below hb
 have Y1 := X1.out.below hb
 have Y2 := X2.out.below hb
 clear hb HB X0 X1 X2
 have c1 : w1.cell? ⟨w.heap.size, 4, none⟩ = some (vi ki h.s) := Y0.c 4 rfl
 have c2 : w1.cell? ⟨w.heap.size, 5, none⟩ = some (.int .u8 h.z) := Y0.c 5 rfl
 have c4 : w1.cell? ⟨w.heap.size + 1, 6, none⟩ = some (vi ki g.v) := Y1.c 6 rfl
 have c5 : w1.cell? ⟨w.heap.size, 6, none⟩ = some (vi ki h.v) := Y0.c 6 rfl
 have c6 : w1.cell? ⟨w.heap.size, 7, none⟩ = some (.string h.t) := Y0.c 7 rfl
 have d0 := Y2.c 0 rfl
 have d1 := Y2.c 1 rfl
 have d2 := Y2.c 2 rfl
 have d3 := Y2.c 3 rfl
 have f0 := Y2.f 0 rfl
 have f1 := Y2.f 1 rfl
 have f2 := Y2.f 2 rfl
 have f3 := Y2.f 3 rfl
 clear Y0 Y1 Y2
 go_wp2_with fail
 refine (IN.out _).mono ?_
 rintro e w2 ⟨rfl, rfl⟩
 obtain ⟨y1, y2, y3, y4⟩ := four_set (x := vi ki R) (y := vi ki (off + h.v)) (z := .bool (h.v != 0)) (u := .string h.t) d0 d1 d2 d3
 unfold set4 at y1 y2 y3 y4
 simp only [Nat.zero_add] at y1 y2 y3 y4
 go_wp2
 refine bodyPost_ret (v := .agg #[vi ki R, vi ki (off + h.v), .bool (h.v != 0), .string h.t]) (by simp [results, Tryz.results182, go_sem, y1, y2, y3, y4]) rfl ⟨rfl, ?_⟩
 exact below_set4 (i := 0) HB1.out (by omega) _ _ _ _
theorem rshift_any (h g : Hf) (off y : Int) (hh : okH h = true) (hg : okH g = true) (o1 : -50400 ≤ off) (o2 : off ≤ 50400) (hy : dyY y) (w : World) :
  Calls Tryz.prog 182 #[.agg #[vi ki h.m, vi ki h.k, vi ki h.d, vi ki h.n, vi ki h.s, .int .u8 h.z, vi ki h.v, .string h.t], .agg #[vi ki g.m, vi ki g.k, vi ki g.d, vi ki g.n, vi ki g.s, .int .u8 g.z, vi ki g.v, .string g.t], vi ki off, vi ki y] w fun e w' => e = zr (.agg #[vi ki (trOf off h g y).t, vi ki (trOf off h g y).o, .bool (trOf off h g y).d, .string (trOf off h g y).a]) ∧ Below w.heap.size w w' := by
 obtain ⟨a1, a2, a3, a4⟩ := okH_of hh
 obtain ⟨b1, b2, b3, b4⟩ := okH_of hg
 obtain ⟨v1, v2⟩ := dyV_bd a1 hy
 obtain ⟨s1, s2, s3⟩ := a2
 exact rshift_run h g off y _ _ _ (fun w => rday_any y h.m h.k h.d h.n w) (fun w => rinst_any _ h.s h.z off g.v v1 v2 s1 s2 o1 o2 b3 b4 w) o1 o2 a3 a4 w
theorem ryear_ab (f : Ft) (y : Int) (p q : Tr) (h1 : ¬ y ≤ -4718) (h2 : ¬ 294282 ≤ y) (hm : f.A.m < f.B.m)
  (RC : Hid (∀ w : World, Calls Tryz.prog 151 #[.agg #[.bool f.h, vi ki f.fr, vi ki f.off, vi ki f.A.m, vi ki f.A.k, vi ki f.A.d, vi ki f.A.n, vi ki f.A.s, .int .u8 f.A.z, vi ki f.A.v, .string f.A.t, vi ki f.B.m, vi ki f.B.k, vi ki f.B.d, vi ki f.B.n, vi ki f.B.s, .int .u8 f.B.z, vi ki f.B.v, .string f.B.t]] w fun e w' => e = zr (.bool true) ∧ Below w.heap.size w w'))
  (SA : Hid (∀ w : World, Cvl.Lens w → Clk.Tab w → Calls Tryz.prog 182 #[.agg #[vi ki f.A.m, vi ki f.A.k, vi ki f.A.d, vi ki f.A.n, vi ki f.A.s, .int .u8 f.A.z, vi ki f.A.v, .string f.A.t], .agg #[vi ki f.B.m, vi ki f.B.k, vi ki f.B.d, vi ki f.B.n, vi ki f.B.s, .int .u8 f.B.z, vi ki f.B.v, .string f.B.t], vi ki f.off, vi ki y] w fun e w' => e = zr (.agg #[vi ki p.t, vi ki p.o, .bool p.d, .string p.a]) ∧ Below w.heap.size w w'))
  (SB : Hid (∀ w : World, Cvl.Lens w → Clk.Tab w → Calls Tryz.prog 182 #[.agg #[vi ki f.B.m, vi ki f.B.k, vi ki f.B.d, vi ki f.B.n, vi ki f.B.s, .int .u8 f.B.z, vi ki f.B.v, .string f.B.t], .agg #[vi ki f.A.m, vi ki f.A.k, vi ki f.A.d, vi ki f.A.n, vi ki f.A.s, .int .u8 f.A.z, vi ki f.A.v, .string f.A.t], vi ki f.off, vi ki y] w fun e w' => e = zr (.agg #[vi ki q.t, vi ki q.o, .bool q.d, .string q.a]) ∧ Below w.heap.size w w'))
  (w : World) (hL0 : Hid (Cvl.Lens w)) (hT0 : Hid (Clk.Tab w)) :
  Calls Tryz.prog 136 #[.agg #[.bool f.h, vi ki f.fr, vi ki f.off, vi ki f.A.m, vi ki f.A.k, vi ki f.A.d, vi ki f.A.n, vi ki f.A.s, .int .u8 f.A.z, vi ki f.A.v, .string f.A.t, vi ki f.B.m, vi ki f.B.k, vi ki f.B.d, vi ki f.B.n, vi ki f.B.s, .int .u8 f.B.z, vi ki f.B.v, .string f.B.t], vi ki y] w fun e w' => ∃ g, e = zr (.tuple #[.slice (some ⟨g, 0, none⟩) 2 2, vi ki 0]) ∧ Bx w' g [vi ki p.t, vi ki p.o, .bool p.d, .string p.a, vi ki q.t, vi ki q.o, .bool q.d, .string q.a] ∧ Below w.heap.size w w' ∧ (∃ cur fz, w'.heap[g]? = some (.cells cur 23 fz)) := by
 have B0 : Hid (Below w.heap.size w (w.alloc (.cells #[.bool f.h, vi ki f.fr, vi ki f.off, vi ki f.A.m, vi ki f.A.k, vi ki f.A.d, vi ki f.A.n, vi ki f.A.s, .int .u8 f.A.z, vi ki f.A.v, .string f.A.t, vi ki f.B.m, vi ki f.B.k, vi ki f.B.d, vi ki f.B.n, vi ki f.B.s, .int .u8 f.B.z, vi ki f.B.v, .string f.B.t] 32))) := (Below.refl _ _).alloc (Nat.le_refl _) _
 have X0 : Hid (Bx (w.alloc (.cells #[.bool f.h, vi ki f.fr, vi ki f.off, vi ki f.A.m, vi ki f.A.k, vi ki f.A.d, vi ki f.A.n, vi ki f.A.s, .int .u8 f.A.z, vi ki f.A.v, .string f.A.t, vi ki f.B.m, vi ki f.B.k, vi ki f.B.d, vi ki f.B.n, vi ki f.B.s, .int .u8 f.B.z, vi ki f.B.v, .string f.B.t] 32)) w.heap.size [.bool f.h, vi ki f.fr, vi ki f.off, vi ki f.A.m, vi ki f.A.k, vi ki f.A.d, vi ki f.A.n, vi ki f.A.s, .int .u8 f.A.z, vi ki f.A.v, .string f.A.t, vi ki f.B.m, vi ki f.B.k, vi ki f.B.d, vi ki f.B.n, vi ki f.B.s, .int .u8 f.B.z, vi ki f.B.v, .string f.B.t]) := Bx.new w [.bool f.h, vi ki f.fr, vi ki f.off, vi ki f.A.m, vi ki f.A.k, vi ki f.A.d, vi ki f.A.n, vi ki f.A.s, .int .u8 f.A.z, vi ki f.A.v, .string f.A.t, vi ki f.B.m, vi ki f.B.k, vi ki f.B.d, vi ki f.B.n, vi ki f.B.s, .int .u8 f.B.z, vi ki f.B.v, .string f.B.t] _
 go_enter Tryz.func136, Tryz.ntmps136
 go_wp2_with (first | (refine wpList_load_mid rfl 32 _ rfl w.heap.size 0 rfl [.bool f.h, vi ki f.fr, vi ki f.off, vi ki f.A.m, vi ki f.A.k, vi ki f.A.d, vi ki f.A.n, vi ki f.A.s, .int .u8 f.A.z, vi ki f.A.v, .string f.A.t, vi ki f.B.m, vi ki f.B.k, vi ki f.B.d, vi ki f.B.n, vi ki f.B.s, .int .u8 f.B.z, vi ki f.B.v, .string f.B.t] _ X0.out.all Tryz.underlying32 rfl (by kernel_rfl) ?_) | fail)
 refine (RC.out _).mono ?_
 rintro e w1 ⟨rfl, hb⟩
 have GB1 : Hid (Below w.heap.size w w1) := B0.out.trans (hb.mono B0.out.size)
 have G1_0 : Hid (Bx w1 w.heap.size [.bool f.h, vi ki f.fr, vi ki f.off, vi ki f.A.m, vi ki f.A.k, vi ki f.A.d, vi ki f.A.n, vi ki f.A.s, .int .u8 f.A.z, vi ki f.A.v, .string f.A.t, vi ki f.B.m, vi ki f.B.k, vi ki f.B.d, vi ki f.B.n, vi ki f.B.s, .int .u8 f.B.z, vi ki f.B.v, .string f.B.t]) := X0.out.below hb
 have c2 := G1_0.out.c 2 rfl
 clear hb B0 X0 RC
 go_wp2_with (first | (refine wpList_load_mid rfl 30 _ rfl w.heap.size 3 rfl [vi ki f.A.m, vi ki f.A.k, vi ki f.A.d, vi ki f.A.n, vi ki f.A.s, .int .u8 f.A.z, vi ki f.A.v, .string f.A.t] _ (G1_0.out.rng [.bool f.h, vi ki f.fr, vi ki f.off] [vi ki f.A.m, vi ki f.A.k, vi ki f.A.d, vi ki f.A.n, vi ki f.A.s, .int .u8 f.A.z, vi ki f.A.v, .string f.A.t] [vi ki f.B.m, vi ki f.B.k, vi ki f.B.d, vi ki f.B.n, vi ki f.B.s, .int .u8 f.B.z, vi ki f.B.v, .string f.B.t] rfl) Tryz.underlying30 rfl (by kernel_rfl) ?_) | (refine wpList_load_mid rfl 30 _ rfl w.heap.size 11 rfl [vi ki f.B.m, vi ki f.B.k, vi ki f.B.d, vi ki f.B.n, vi ki f.B.s, .int .u8 f.B.z, vi ki f.B.v, .string f.B.t] _ (G1_0.out.rng [.bool f.h, vi ki f.fr, vi ki f.off, vi ki f.A.m, vi ki f.A.k, vi ki f.A.d, vi ki f.A.n, vi ki f.A.s, .int .u8 f.A.z, vi ki f.A.v, .string f.A.t] [vi ki f.B.m, vi ki f.B.k, vi ki f.B.d, vi ki f.B.n, vi ki f.B.s, .int .u8 f.B.z, vi ki f.B.v, .string f.B.t] [] rfl) Tryz.underlying30 rfl (by kernel_rfl) ?_) | fail)
 refine (SA.out _ (bel_lens GB1.out hL0.out) (hT0.out.below GB1.out)).mono ?_
 rintro e w2 ⟨rfl, hb⟩
 have Z2_0 : Hid (Bx (w2.alloc (.cells #[vi ki 0, vi ki 0, .bool false, .string ⟨#[]⟩] 23)) w.heap.size [.bool f.h, vi ki f.fr, vi ki f.off, vi ki f.A.m, vi ki f.A.k, vi ki f.A.d, vi ki f.A.n, vi ki f.A.s, .int .u8 f.A.z, vi ki f.A.v, .string f.A.t, vi ki f.B.m, vi ki f.B.k, vi ki f.B.d, vi ki f.B.n, vi ki f.B.s, .int .u8 f.B.z, vi ki f.B.v, .string f.B.t]) := (G1_0.out.below hb).alloc _
 have Z2_0l : Hid (w.heap.size < w2.heap.size) := (G1_0.out.below hb).1
 have ZN2 : Hid (Bx (w2.alloc (.cells #[vi ki 0, vi ki 0, .bool false, .string ⟨#[]⟩] 23)) w2.heap.size z4) := Bx.new w2 z4 _
 have ZL2 : Hid (w.heap.size ≤ w2.heap.size) := (GB1.out.trans (hb.mono GB1.out.size)).size
 have ZB2 : Hid (Below w.heap.size w (w2.alloc (.cells #[vi ki 0, vi ki 0, .bool false, .string ⟨#[]⟩] 23))) := (GB1.out.trans (hb.mono GB1.out.size)).alloc ZL2.out _
 clear hb SA G1_0 GB1 c2
 go_wp2_with (first | (refine wpList_store_mid rfl 23 _ _ rfl w2.heap.size 0 #[vi ki p.t, vi ki p.o, .bool p.d, .string p.a] rfl rfl ZN2.out.there (by kernel_rfl) (tL_one p) ?_; refine gen_list (fun V => Bx V w.heap.size [.bool f.h, vi ki f.fr, vi ki f.off, vi ki f.A.m, vi ki f.A.k, vi ki f.A.d, vi ki f.A.n, vi ki f.A.s, .int .u8 f.A.z, vi ki f.A.v, .string f.A.t, vi ki f.B.m, vi ki f.B.k, vi ki f.B.d, vi ki f.B.n, vi ki f.B.s, .int .u8 f.B.z, vi ki f.B.v, .string f.B.t] ∧ Bx V w2.heap.size (tL p) ∧ Below w.heap.size w V) ⟨Z2_0.out.setOther (by have := Z2_0l.out; omega) (tL p), ZN2.out.setAll (tL p) rfl, below_setCells (by have := ZL2.out; omega) _ _ _ ZB2.out⟩ ?_; clear Z2_0 Z2_0l ZN2 ZB2; rintro V2 ⟨e2_0, eN2, eB2⟩; have G2_0 : Hid (Bx V2 w.heap.size [.bool f.h, vi ki f.fr, vi ki f.off, vi ki f.A.m, vi ki f.A.k, vi ki f.A.d, vi ki f.A.n, vi ki f.A.s, .int .u8 f.A.z, vi ki f.A.v, .string f.A.t, vi ki f.B.m, vi ki f.B.k, vi ki f.B.d, vi ki f.B.n, vi ki f.B.s, .int .u8 f.B.z, vi ki f.B.v, .string f.B.t]) := e2_0; have G2_1 : Hid (Bx V2 w2.heap.size (tL p)) := eN2; have GB2 : Hid (Below w.heap.size w V2) := eB2; clear e2_0 eN2 eB2; have c2 := G2_0.out.c 2 rfl) | (refine wpList_load_mid rfl 30 _ rfl w.heap.size 3 rfl [vi ki f.A.m, vi ki f.A.k, vi ki f.A.d, vi ki f.A.n, vi ki f.A.s, .int .u8 f.A.z, vi ki f.A.v, .string f.A.t] _ (G2_0.out.rng [.bool f.h, vi ki f.fr, vi ki f.off] [vi ki f.A.m, vi ki f.A.k, vi ki f.A.d, vi ki f.A.n, vi ki f.A.s, .int .u8 f.A.z, vi ki f.A.v, .string f.A.t] [vi ki f.B.m, vi ki f.B.k, vi ki f.B.d, vi ki f.B.n, vi ki f.B.s, .int .u8 f.B.z, vi ki f.B.v, .string f.B.t] rfl) Tryz.underlying30 rfl (by kernel_rfl) ?_) | (refine wpList_load_mid rfl 30 _ rfl w.heap.size 11 rfl [vi ki f.B.m, vi ki f.B.k, vi ki f.B.d, vi ki f.B.n, vi ki f.B.s, .int .u8 f.B.z, vi ki f.B.v, .string f.B.t] _ (G2_0.out.rng [.bool f.h, vi ki f.fr, vi ki f.off, vi ki f.A.m, vi ki f.A.k, vi ki f.A.d, vi ki f.A.n, vi ki f.A.s, .int .u8 f.A.z, vi ki f.A.v, .string f.A.t] [vi ki f.B.m, vi ki f.B.k, vi ki f.B.d, vi ki f.B.n, vi ki f.B.s, .int .u8 f.B.z, vi ki f.B.v, .string f.B.t] [] rfl) Tryz.underlying30 rfl (by kernel_rfl) ?_) | fail)
 refine (SB.out _ (bel_lens GB2.out hL0.out) (hT0.out.below GB2.out)).mono ?_
 rintro e w3 ⟨rfl, hb⟩
 have Z3_0 : Hid (Bx (w3.alloc (.cells #[vi ki 0, vi ki 0, .bool false, .string ⟨#[]⟩] 23)) w.heap.size [.bool f.h, vi ki f.fr, vi ki f.off, vi ki f.A.m, vi ki f.A.k, vi ki f.A.d, vi ki f.A.n, vi ki f.A.s, .int .u8 f.A.z, vi ki f.A.v, .string f.A.t, vi ki f.B.m, vi ki f.B.k, vi ki f.B.d, vi ki f.B.n, vi ki f.B.s, .int .u8 f.B.z, vi ki f.B.v, .string f.B.t]) := (G2_0.out.below hb).alloc _
 have Z3_0l : Hid (w.heap.size < w3.heap.size) := (G2_0.out.below hb).1
 have Z3_1 : Hid (Bx (w3.alloc (.cells #[vi ki 0, vi ki 0, .bool false, .string ⟨#[]⟩] 23)) w2.heap.size (tL p)) := (G2_1.out.below hb).alloc _
 have Z3_1l : Hid (w2.heap.size < w3.heap.size) := (G2_1.out.below hb).1
 have ZN3 : Hid (Bx (w3.alloc (.cells #[vi ki 0, vi ki 0, .bool false, .string ⟨#[]⟩] 23)) w3.heap.size z4) := Bx.new w3 z4 _
 have ZL3 : Hid (w.heap.size ≤ w3.heap.size) := (GB2.out.trans (hb.mono GB2.out.size)).size
 have ZB3 : Hid (Below w.heap.size w (w3.alloc (.cells #[vi ki 0, vi ki 0, .bool false, .string ⟨#[]⟩] 23))) := (GB2.out.trans (hb.mono GB2.out.size)).alloc ZL3.out _
 clear hb SB G2_0 G2_1 GB2 c2
 go_wp2_with (first | (refine wpList_store_mid rfl 23 _ _ rfl w3.heap.size 0 #[vi ki q.t, vi ki q.o, .bool q.d, .string q.a] rfl rfl ZN3.out.there (by kernel_rfl) (tL_one q) ?_; refine gen_list (fun V => Bx V w.heap.size [.bool f.h, vi ki f.fr, vi ki f.off, vi ki f.A.m, vi ki f.A.k, vi ki f.A.d, vi ki f.A.n, vi ki f.A.s, .int .u8 f.A.z, vi ki f.A.v, .string f.A.t, vi ki f.B.m, vi ki f.B.k, vi ki f.B.d, vi ki f.B.n, vi ki f.B.s, .int .u8 f.B.z, vi ki f.B.v, .string f.B.t] ∧ Bx V w2.heap.size (tL p) ∧ Bx V w3.heap.size (tL q) ∧ Below w.heap.size w V) ⟨Z3_0.out.setOther (by have := Z3_0l.out; omega) (tL q), Z3_1.out.setOther (by have := Z3_1l.out; omega) (tL q), ZN3.out.setAll (tL q) rfl, below_setCells (by have := ZL3.out; omega) _ _ _ ZB3.out⟩ ?_; clear Z3_0 Z3_0l Z3_1 Z3_1l ZN3 ZB3; rintro V3 ⟨e3_0, e3_1, eN3, eB3⟩; have G3_0 : Hid (Bx V3 w.heap.size [.bool f.h, vi ki f.fr, vi ki f.off, vi ki f.A.m, vi ki f.A.k, vi ki f.A.d, vi ki f.A.n, vi ki f.A.s, .int .u8 f.A.z, vi ki f.A.v, .string f.A.t, vi ki f.B.m, vi ki f.B.k, vi ki f.B.d, vi ki f.B.n, vi ki f.B.s, .int .u8 f.B.z, vi ki f.B.v, .string f.B.t]) := e3_0; have G3_1 : Hid (Bx V3 w2.heap.size (tL p)) := e3_1; have G3_2 : Hid (Bx V3 w3.heap.size (tL q)) := eN3; have GB3 : Hid (Below w.heap.size w V3) := eB3; clear e3_0 e3_1 eN3 eB3; have c3 := G3_0.out.c 3 rfl; have c11 := G3_0.out.c 11 rfl; have p0 := G3_1.out.c 0 rfl; have q0 := G3_2.out.c 0 rfl; have p1 := G3_1.out.c 1 rfl; have q1 := G3_2.out.c 1 rfl; have p2 := G3_1.out.c 2 rfl; have q2 := G3_2.out.c 2 rfl; have p3 := G3_1.out.c 3 rfl; have q3 := G3_2.out.c 3 rfl) | fail)
 go_ret2
 exact ⟨_, rfl, Bx.new _ [vi ki p.t, vi ki p.o, .bool p.d, .string p.a, vi ki q.t, vi ki q.o, .bool q.d, .string q.a] _, GB3.out.alloc GB3.out.size _, ⟨_, _, heap_alloc_new _ _⟩⟩
theorem ryear_ba (f : Ft) (y : Int) (p q : Tr) (h1 : ¬ y ≤ -4718) (h2 : ¬ 294282 ≤ y) (hm : ¬ f.A.m < f.B.m)
  (RC : Hid (∀ w : World, Calls Tryz.prog 151 #[.agg #[.bool f.h, vi ki f.fr, vi ki f.off, vi ki f.A.m, vi ki f.A.k, vi ki f.A.d, vi ki f.A.n, vi ki f.A.s, .int .u8 f.A.z, vi ki f.A.v, .string f.A.t, vi ki f.B.m, vi ki f.B.k, vi ki f.B.d, vi ki f.B.n, vi ki f.B.s, .int .u8 f.B.z, vi ki f.B.v, .string f.B.t]] w fun e w' => e = zr (.bool true) ∧ Below w.heap.size w w'))
  (SA : Hid (∀ w : World, Cvl.Lens w → Clk.Tab w → Calls Tryz.prog 182 #[.agg #[vi ki f.A.m, vi ki f.A.k, vi ki f.A.d, vi ki f.A.n, vi ki f.A.s, .int .u8 f.A.z, vi ki f.A.v, .string f.A.t], .agg #[vi ki f.B.m, vi ki f.B.k, vi ki f.B.d, vi ki f.B.n, vi ki f.B.s, .int .u8 f.B.z, vi ki f.B.v, .string f.B.t], vi ki f.off, vi ki y] w fun e w' => e = zr (.agg #[vi ki p.t, vi ki p.o, .bool p.d, .string p.a]) ∧ Below w.heap.size w w'))
  (SB : Hid (∀ w : World, Cvl.Lens w → Clk.Tab w → Calls Tryz.prog 182 #[.agg #[vi ki f.B.m, vi ki f.B.k, vi ki f.B.d, vi ki f.B.n, vi ki f.B.s, .int .u8 f.B.z, vi ki f.B.v, .string f.B.t], .agg #[vi ki f.A.m, vi ki f.A.k, vi ki f.A.d, vi ki f.A.n, vi ki f.A.s, .int .u8 f.A.z, vi ki f.A.v, .string f.A.t], vi ki f.off, vi ki y] w fun e w' => e = zr (.agg #[vi ki q.t, vi ki q.o, .bool q.d, .string q.a]) ∧ Below w.heap.size w w'))
  (w : World) (hL0 : Hid (Cvl.Lens w)) (hT0 : Hid (Clk.Tab w)) :
  Calls Tryz.prog 136 #[.agg #[.bool f.h, vi ki f.fr, vi ki f.off, vi ki f.A.m, vi ki f.A.k, vi ki f.A.d, vi ki f.A.n, vi ki f.A.s, .int .u8 f.A.z, vi ki f.A.v, .string f.A.t, vi ki f.B.m, vi ki f.B.k, vi ki f.B.d, vi ki f.B.n, vi ki f.B.s, .int .u8 f.B.z, vi ki f.B.v, .string f.B.t], vi ki y] w fun e w' => ∃ g, e = zr (.tuple #[.slice (some ⟨g, 0, none⟩) 2 2, vi ki 0]) ∧ Bx w' g [vi ki q.t, vi ki q.o, .bool q.d, .string q.a, vi ki p.t, vi ki p.o, .bool p.d, .string p.a] ∧ Below w.heap.size w w' ∧ (∃ cur fz, w'.heap[g]? = some (.cells cur 23 fz)) := by
 have B0 : Hid (Below w.heap.size w (w.alloc (.cells #[.bool f.h, vi ki f.fr, vi ki f.off, vi ki f.A.m, vi ki f.A.k, vi ki f.A.d, vi ki f.A.n, vi ki f.A.s, .int .u8 f.A.z, vi ki f.A.v, .string f.A.t, vi ki f.B.m, vi ki f.B.k, vi ki f.B.d, vi ki f.B.n, vi ki f.B.s, .int .u8 f.B.z, vi ki f.B.v, .string f.B.t] 32))) := (Below.refl _ _).alloc (Nat.le_refl _) _
 have X0 : Hid (Bx (w.alloc (.cells #[.bool f.h, vi ki f.fr, vi ki f.off, vi ki f.A.m, vi ki f.A.k, vi ki f.A.d, vi ki f.A.n, vi ki f.A.s, .int .u8 f.A.z, vi ki f.A.v, .string f.A.t, vi ki f.B.m, vi ki f.B.k, vi ki f.B.d, vi ki f.B.n, vi ki f.B.s, .int .u8 f.B.z, vi ki f.B.v, .string f.B.t] 32)) w.heap.size [.bool f.h, vi ki f.fr, vi ki f.off, vi ki f.A.m, vi ki f.A.k, vi ki f.A.d, vi ki f.A.n, vi ki f.A.s, .int .u8 f.A.z, vi ki f.A.v, .string f.A.t, vi ki f.B.m, vi ki f.B.k, vi ki f.B.d, vi ki f.B.n, vi ki f.B.s, .int .u8 f.B.z, vi ki f.B.v, .string f.B.t]) := Bx.new w [.bool f.h, vi ki f.fr, vi ki f.off, vi ki f.A.m, vi ki f.A.k, vi ki f.A.d, vi ki f.A.n, vi ki f.A.s, .int .u8 f.A.z, vi ki f.A.v, .string f.A.t, vi ki f.B.m, vi ki f.B.k, vi ki f.B.d, vi ki f.B.n, vi ki f.B.s, .int .u8 f.B.z, vi ki f.B.v, .string f.B.t] _
 go_enter Tryz.func136, Tryz.ntmps136
 go_wp2_with (first | (refine wpList_load_mid rfl 32 _ rfl w.heap.size 0 rfl [.bool f.h, vi ki f.fr, vi ki f.off, vi ki f.A.m, vi ki f.A.k, vi ki f.A.d, vi ki f.A.n, vi ki f.A.s, .int .u8 f.A.z, vi ki f.A.v, .string f.A.t, vi ki f.B.m, vi ki f.B.k, vi ki f.B.d, vi ki f.B.n, vi ki f.B.s, .int .u8 f.B.z, vi ki f.B.v, .string f.B.t] _ X0.out.all Tryz.underlying32 rfl (by kernel_rfl) ?_) | fail)
 refine (RC.out _).mono ?_
 rintro e w1 ⟨rfl, hb⟩
 have GB1 : Hid (Below w.heap.size w w1) := B0.out.trans (hb.mono B0.out.size)
 have G1_0 : Hid (Bx w1 w.heap.size [.bool f.h, vi ki f.fr, vi ki f.off, vi ki f.A.m, vi ki f.A.k, vi ki f.A.d, vi ki f.A.n, vi ki f.A.s, .int .u8 f.A.z, vi ki f.A.v, .string f.A.t, vi ki f.B.m, vi ki f.B.k, vi ki f.B.d, vi ki f.B.n, vi ki f.B.s, .int .u8 f.B.z, vi ki f.B.v, .string f.B.t]) := X0.out.below hb
 have c2 := G1_0.out.c 2 rfl
 clear hb B0 X0 RC
 go_wp2_with (first | (refine wpList_load_mid rfl 30 _ rfl w.heap.size 3 rfl [vi ki f.A.m, vi ki f.A.k, vi ki f.A.d, vi ki f.A.n, vi ki f.A.s, .int .u8 f.A.z, vi ki f.A.v, .string f.A.t] _ (G1_0.out.rng [.bool f.h, vi ki f.fr, vi ki f.off] [vi ki f.A.m, vi ki f.A.k, vi ki f.A.d, vi ki f.A.n, vi ki f.A.s, .int .u8 f.A.z, vi ki f.A.v, .string f.A.t] [vi ki f.B.m, vi ki f.B.k, vi ki f.B.d, vi ki f.B.n, vi ki f.B.s, .int .u8 f.B.z, vi ki f.B.v, .string f.B.t] rfl) Tryz.underlying30 rfl (by kernel_rfl) ?_) | (refine wpList_load_mid rfl 30 _ rfl w.heap.size 11 rfl [vi ki f.B.m, vi ki f.B.k, vi ki f.B.d, vi ki f.B.n, vi ki f.B.s, .int .u8 f.B.z, vi ki f.B.v, .string f.B.t] _ (G1_0.out.rng [.bool f.h, vi ki f.fr, vi ki f.off, vi ki f.A.m, vi ki f.A.k, vi ki f.A.d, vi ki f.A.n, vi ki f.A.s, .int .u8 f.A.z, vi ki f.A.v, .string f.A.t] [vi ki f.B.m, vi ki f.B.k, vi ki f.B.d, vi ki f.B.n, vi ki f.B.s, .int .u8 f.B.z, vi ki f.B.v, .string f.B.t] [] rfl) Tryz.underlying30 rfl (by kernel_rfl) ?_) | fail)
 refine (SA.out _ (bel_lens GB1.out hL0.out) (hT0.out.below GB1.out)).mono ?_
 rintro e w2 ⟨rfl, hb⟩
 have Z2_0 : Hid (Bx (w2.alloc (.cells #[vi ki 0, vi ki 0, .bool false, .string ⟨#[]⟩] 23)) w.heap.size [.bool f.h, vi ki f.fr, vi ki f.off, vi ki f.A.m, vi ki f.A.k, vi ki f.A.d, vi ki f.A.n, vi ki f.A.s, .int .u8 f.A.z, vi ki f.A.v, .string f.A.t, vi ki f.B.m, vi ki f.B.k, vi ki f.B.d, vi ki f.B.n, vi ki f.B.s, .int .u8 f.B.z, vi ki f.B.v, .string f.B.t]) := (G1_0.out.below hb).alloc _
 have Z2_0l : Hid (w.heap.size < w2.heap.size) := (G1_0.out.below hb).1
 have ZN2 : Hid (Bx (w2.alloc (.cells #[vi ki 0, vi ki 0, .bool false, .string ⟨#[]⟩] 23)) w2.heap.size z4) := Bx.new w2 z4 _
 have ZL2 : Hid (w.heap.size ≤ w2.heap.size) := (GB1.out.trans (hb.mono GB1.out.size)).size
 have ZB2 : Hid (Below w.heap.size w (w2.alloc (.cells #[vi ki 0, vi ki 0, .bool false, .string ⟨#[]⟩] 23))) := (GB1.out.trans (hb.mono GB1.out.size)).alloc ZL2.out _
 clear hb SA G1_0 GB1 c2
 go_wp2_with (first | (refine wpList_store_mid rfl 23 _ _ rfl w2.heap.size 0 #[vi ki p.t, vi ki p.o, .bool p.d, .string p.a] rfl rfl ZN2.out.there (by kernel_rfl) (tL_one p) ?_; refine gen_list (fun V => Bx V w.heap.size [.bool f.h, vi ki f.fr, vi ki f.off, vi ki f.A.m, vi ki f.A.k, vi ki f.A.d, vi ki f.A.n, vi ki f.A.s, .int .u8 f.A.z, vi ki f.A.v, .string f.A.t, vi ki f.B.m, vi ki f.B.k, vi ki f.B.d, vi ki f.B.n, vi ki f.B.s, .int .u8 f.B.z, vi ki f.B.v, .string f.B.t] ∧ Bx V w2.heap.size (tL p) ∧ Below w.heap.size w V) ⟨Z2_0.out.setOther (by have := Z2_0l.out; omega) (tL p), ZN2.out.setAll (tL p) rfl, below_setCells (by have := ZL2.out; omega) _ _ _ ZB2.out⟩ ?_; clear Z2_0 Z2_0l ZN2 ZB2; rintro V2 ⟨e2_0, eN2, eB2⟩; have G2_0 : Hid (Bx V2 w.heap.size [.bool f.h, vi ki f.fr, vi ki f.off, vi ki f.A.m, vi ki f.A.k, vi ki f.A.d, vi ki f.A.n, vi ki f.A.s, .int .u8 f.A.z, vi ki f.A.v, .string f.A.t, vi ki f.B.m, vi ki f.B.k, vi ki f.B.d, vi ki f.B.n, vi ki f.B.s, .int .u8 f.B.z, vi ki f.B.v, .string f.B.t]) := e2_0; have G2_1 : Hid (Bx V2 w2.heap.size (tL p)) := eN2; have GB2 : Hid (Below w.heap.size w V2) := eB2; clear e2_0 eN2 eB2; have c2 := G2_0.out.c 2 rfl) | (refine wpList_load_mid rfl 30 _ rfl w.heap.size 3 rfl [vi ki f.A.m, vi ki f.A.k, vi ki f.A.d, vi ki f.A.n, vi ki f.A.s, .int .u8 f.A.z, vi ki f.A.v, .string f.A.t] _ (G2_0.out.rng [.bool f.h, vi ki f.fr, vi ki f.off] [vi ki f.A.m, vi ki f.A.k, vi ki f.A.d, vi ki f.A.n, vi ki f.A.s, .int .u8 f.A.z, vi ki f.A.v, .string f.A.t] [vi ki f.B.m, vi ki f.B.k, vi ki f.B.d, vi ki f.B.n, vi ki f.B.s, .int .u8 f.B.z, vi ki f.B.v, .string f.B.t] rfl) Tryz.underlying30 rfl (by kernel_rfl) ?_) | (refine wpList_load_mid rfl 30 _ rfl w.heap.size 11 rfl [vi ki f.B.m, vi ki f.B.k, vi ki f.B.d, vi ki f.B.n, vi ki f.B.s, .int .u8 f.B.z, vi ki f.B.v, .string f.B.t] _ (G2_0.out.rng [.bool f.h, vi ki f.fr, vi ki f.off, vi ki f.A.m, vi ki f.A.k, vi ki f.A.d, vi ki f.A.n, vi ki f.A.s, .int .u8 f.A.z, vi ki f.A.v, .string f.A.t] [vi ki f.B.m, vi ki f.B.k, vi ki f.B.d, vi ki f.B.n, vi ki f.B.s, .int .u8 f.B.z, vi ki f.B.v, .string f.B.t] [] rfl) Tryz.underlying30 rfl (by kernel_rfl) ?_) | fail)
 refine (SB.out _ (bel_lens GB2.out hL0.out) (hT0.out.below GB2.out)).mono ?_
 rintro e w3 ⟨rfl, hb⟩
 have Z3_0 : Hid (Bx (w3.alloc (.cells #[vi ki 0, vi ki 0, .bool false, .string ⟨#[]⟩] 23)) w.heap.size [.bool f.h, vi ki f.fr, vi ki f.off, vi ki f.A.m, vi ki f.A.k, vi ki f.A.d, vi ki f.A.n, vi ki f.A.s, .int .u8 f.A.z, vi ki f.A.v, .string f.A.t, vi ki f.B.m, vi ki f.B.k, vi ki f.B.d, vi ki f.B.n, vi ki f.B.s, .int .u8 f.B.z, vi ki f.B.v, .string f.B.t]) := (G2_0.out.below hb).alloc _
 have Z3_0l : Hid (w.heap.size < w3.heap.size) := (G2_0.out.below hb).1
 have Z3_1 : Hid (Bx (w3.alloc (.cells #[vi ki 0, vi ki 0, .bool false, .string ⟨#[]⟩] 23)) w2.heap.size (tL p)) := (G2_1.out.below hb).alloc _
 have Z3_1l : Hid (w2.heap.size < w3.heap.size) := (G2_1.out.below hb).1
 have ZN3 : Hid (Bx (w3.alloc (.cells #[vi ki 0, vi ki 0, .bool false, .string ⟨#[]⟩] 23)) w3.heap.size z4) := Bx.new w3 z4 _
 have ZL3 : Hid (w.heap.size ≤ w3.heap.size) := (GB2.out.trans (hb.mono GB2.out.size)).size
 have ZB3 : Hid (Below w.heap.size w (w3.alloc (.cells #[vi ki 0, vi ki 0, .bool false, .string ⟨#[]⟩] 23))) := (GB2.out.trans (hb.mono GB2.out.size)).alloc ZL3.out _
 clear hb SB G2_0 G2_1 GB2 c2
 go_wp2_with (first | (refine wpList_store_mid rfl 23 _ _ rfl w3.heap.size 0 #[vi ki q.t, vi ki q.o, .bool q.d, .string q.a] rfl rfl ZN3.out.there (by kernel_rfl) (tL_one q) ?_; refine gen_list (fun V => Bx V w.heap.size [.bool f.h, vi ki f.fr, vi ki f.off, vi ki f.A.m, vi ki f.A.k, vi ki f.A.d, vi ki f.A.n, vi ki f.A.s, .int .u8 f.A.z, vi ki f.A.v, .string f.A.t, vi ki f.B.m, vi ki f.B.k, vi ki f.B.d, vi ki f.B.n, vi ki f.B.s, .int .u8 f.B.z, vi ki f.B.v, .string f.B.t] ∧ Bx V w2.heap.size (tL p) ∧ Bx V w3.heap.size (tL q) ∧ Below w.heap.size w V) ⟨Z3_0.out.setOther (by have := Z3_0l.out; omega) (tL q), Z3_1.out.setOther (by have := Z3_1l.out; omega) (tL q), ZN3.out.setAll (tL q) rfl, below_setCells (by have := ZL3.out; omega) _ _ _ ZB3.out⟩ ?_; clear Z3_0 Z3_0l Z3_1 Z3_1l ZN3 ZB3; rintro V3 ⟨e3_0, e3_1, eN3, eB3⟩; have G3_0 : Hid (Bx V3 w.heap.size [.bool f.h, vi ki f.fr, vi ki f.off, vi ki f.A.m, vi ki f.A.k, vi ki f.A.d, vi ki f.A.n, vi ki f.A.s, .int .u8 f.A.z, vi ki f.A.v, .string f.A.t, vi ki f.B.m, vi ki f.B.k, vi ki f.B.d, vi ki f.B.n, vi ki f.B.s, .int .u8 f.B.z, vi ki f.B.v, .string f.B.t]) := e3_0; have G3_1 : Hid (Bx V3 w2.heap.size (tL p)) := e3_1; have G3_2 : Hid (Bx V3 w3.heap.size (tL q)) := eN3; have GB3 : Hid (Below w.heap.size w V3) := eB3; clear e3_0 e3_1 eN3 eB3; have c3 := G3_0.out.c 3 rfl; have c11 := G3_0.out.c 11 rfl; have p0 := G3_1.out.c 0 rfl; have q0 := G3_2.out.c 0 rfl; have p1 := G3_1.out.c 1 rfl; have q1 := G3_2.out.c 1 rfl; have p2 := G3_1.out.c 2 rfl; have q2 := G3_2.out.c 2 rfl; have p3 := G3_1.out.c 3 rfl; have q3 := G3_2.out.c 3 rfl) | fail)
 go_ret2
 exact ⟨_, rfl, Bx.new _ [vi ki q.t, vi ki q.o, .bool q.d, .string q.a, vi ki p.t, vi ki p.o, .bool p.d, .string p.a] _, GB3.out.alloc GB3.out.size _, ⟨_, _, heap_alloc_new _ _⟩⟩
theorem ryear_new (f : Ft) (y : Int) (hf : okF f = true) (hy : dyY y) (w : World) (hL : Cvl.Lens w) (hT : Clk.Tab w) :
  Calls Tryz.prog 136 #[.agg #[.bool f.h, vi ki f.fr, vi ki f.off, vi ki f.A.m, vi ki f.A.k, vi ki f.A.d, vi ki f.A.n, vi ki f.A.s, .int .u8 f.A.z, vi ki f.A.v, .string f.A.t, vi ki f.B.m, vi ki f.B.k, vi ki f.B.d, vi ki f.B.n, vi ki f.B.s, .int .u8 f.B.z, vi ki f.B.v, .string f.B.t], vi ki y] w fun e w' => ∃ g, e = zr (.tuple #[.slice (some ⟨g, 0, none⟩) 2 2, vi ki 0]) ∧ Bx w' g (tL (sh1 f y) ++ tL (sh2 f y)) ∧ Below w.heap.size w w' ∧ (∃ cur fz, w'.heap[g]? = some (.cells cur 23 fz)) := by
 have L := lh_of hf
 have e := sh_is L hy
 obtain ⟨o1, o2, hA, hB, _, _⟩ := okF_of hf
 have RC : ∀ w : World, Calls Tryz.prog 151 #[.agg #[.bool f.h, vi ki f.fr, vi ki f.off, vi ki f.A.m, vi ki f.A.k, vi ki f.A.d, vi ki f.A.n, vi ki f.A.s, .int .u8 f.A.z, vi ki f.A.v, .string f.A.t, vi ki f.B.m, vi ki f.B.k, vi ki f.B.d, vi ki f.B.n, vi ki f.B.s, .int .u8 f.B.z, vi ki f.B.v, .string f.B.t]] w fun e w' => e = zr (.bool true) ∧ Below w.heap.size w w' := fun w => by
  have R := rcan_any f w
  rw [hf] at R
  exact R
 have h12 : ¬ y ≤ -4718 ∧ ¬ 294282 ≤ y := by unfold dyY at hy; omega
 by_cases q : f.A.m < f.B.m
 ·have e1 : lo f = f.A := if_pos q
  have e2 : hi f = f.B := if_pos q
  rw [e1, e2] at e
  rw [e.1, e.2]
  exact ryear_ab f y _ _ h12.1 h12.2 q RC (fun w _ _ => rshift_any f.A f.B f.off y hA hB o1 o2 hy w) (fun w _ _ => rshift_any f.B f.A f.off y hB hA o1 o2 hy w) w hL hT
 ·have e1 : lo f = f.B := if_neg q
  have e2 : hi f = f.A := if_neg q
  rw [e1, e2] at e
  rw [e.1, e.2]
  exact ryear_ba f y _ _ h12.1 h12.2 q RC (fun w _ _ => rshift_any f.A f.B f.off y hA hB o1 o2 hy w) (fun w _ _ => rshift_any f.B f.A f.off y hB hA o1 o2 hy w) w hL hT
theorem ryear_ok (f : Ft) (y : Int) (hf : okF f = true) (hy : dyY y) (w : World) (hL : Cvl.Lens w) (hT : Clk.Tab w) :
  Calls Tryz.prog 136 #[.agg #[.bool f.h, vi ki f.fr, vi ki f.off, vi ki f.A.m, vi ki f.A.k, vi ki f.A.d, vi ki f.A.n, vi ki f.A.s, .int .u8 f.A.z, vi ki f.A.v, .string f.A.t, vi ki f.B.m, vi ki f.B.k, vi ki f.B.d, vi ki f.B.n, vi ki f.B.s, .int .u8 f.B.z, vi ki f.B.v, .string f.B.t], vi ki y] w fun e w' => ∃ g, e = zr (.tuple #[.slice (some ⟨g, 0, none⟩) 2 2, vi ki 0]) ∧ Bx w' g (tL (sh1 f y) ++ tL (sh2 f y)) ∧ Below w.heap.size w w' := by
 refine (ryear_new f y hf hy w hL hT).mono ?_
 rintro e w' ⟨g, h1, h2, h3, _⟩
 exact ⟨g, h1, h2, h3⟩
theorem own_lt {W : World} {b : Nat} {e : TypeId} {sz n : Nat} {v : Value} {xs : List Value} (h : W.ownsRow (b + 1) e sz v n xs) (r : Nat) (hr : v.ownBlock = some r) : b < r := by
 rcases h.2 with ⟨rfl, _⟩ | ⟨g, cap, cur, rfl, q, _⟩
 ·simp [Value.ownBlock] at hr
 ·simp [Value.ownBlock] at hr; omega
theorem own_ne {W : World} {b : Nat} {e : TypeId} {sz n : Nat} {v : Value} {xs : List Value} (h : W.ownsRow (b + 1) e sz v n xs) (r : Nat) (hr : v.ownBlock = some r) : r ≠ b := by
 have := own_lt h r hr
 omega
theorem rowsK_two (f : Ft) (y0 : Int) (i : Nat) : rowsK f y0 (2 * (i + 1)) = rowsK f y0 (2 * i) ++ (tL (sh1 f (y0 + i)) ++ tL (sh2 f (y0 + i))) := by
 rw [show 2 * (i + 1) = 2 * i + 1 + 1 by omega]
 show (rowsK f y0 (2 * i) ++ tL (shK f y0 (2 * i))) ++ tL (shK f y0 (2 * i + 1)) = _
 rw [shK_0, shK_1, List.append_assoc]
theorem rowsK_len (f : Ft) (y0 : Int) : ∀ n : Nat, (rowsK f y0 n).length = 4 * n
 | 0 => rfl
 | n + 1 => by
  show (rowsK f y0 n ++ tL (shK f y0 n)).length = _
  rw [List.length_append, rowsK_len f y0 n]
  show 4 * n + 4 = _
  omega
theorem rowsK_at (f : Ft) (y0 : Int) (k c : Nat) (hc : c < 4) : ∀ n : Nat, k < n → (rowsK f y0 n)[4 * k + c]? = (tL (shK f y0 k))[c]?
 | 0, h => by omega
 | n + 1, h => by
  show (rowsK f y0 n ++ tL (shK f y0 n))[4 * k + c]? = _
  by_cases e : k = n
  ·subst e
   rw [List.getElem?_append_right (by rw [rowsK_len]; omega), rowsK_len, show 4 * k + c - 4 * k = c by omega]
  ·rw [List.getElem?_append_left (by rw [rowsK_len]; omega)]
   exact rowsK_at f y0 k c hc n (by omega)
theorem tL_mem2 {p q : Tr} {v : Value} (hv : v ∈ tL p ++ tL q) : v.oneCell' = true := by
 rcases List.mem_append.1 hv with h | h
 ·exact tL_mem h
 ·exact tL_mem h
theorem near_ok (f : Ft) (t y : Int) (y1 : -4714 ≤ y) (y2 : y ≤ 294278)
  (RC : Hid (∀ w : World, Calls Tryz.prog 151 #[.agg #[.bool f.h, vi ki f.fr, vi ki f.off, vi ki f.A.m, vi ki f.A.k, vi ki f.A.d, vi ki f.A.n, vi ki f.A.s, .int .u8 f.A.z, vi ki f.A.v, .string f.A.t, vi ki f.B.m, vi ki f.B.k, vi ki f.B.d, vi ki f.B.n, vi ki f.B.s, .int .u8 f.B.z, vi ki f.B.v, .string f.B.t]] w fun e w' => e = zr (.bool true) ∧ Below w.heap.size w w'))
  (YA : Hid (∀ w : World, Calls Tryz.prog 54 #[vi ki t] w fun e w' => e = zr (vi ki y) ∧ w' = w))
  (YE : Hid (∀ (i : Nat), i < 5 → ∀ w : World, Cvl.Lens w → Clk.Tab w → Calls Tryz.prog 136 #[.agg #[.bool f.h, vi ki f.fr, vi ki f.off, vi ki f.A.m, vi ki f.A.k, vi ki f.A.d, vi ki f.A.n, vi ki f.A.s, .int .u8 f.A.z, vi ki f.A.v, .string f.A.t, vi ki f.B.m, vi ki f.B.k, vi ki f.B.d, vi ki f.B.n, vi ki f.B.s, .int .u8 f.B.z, vi ki f.B.v, .string f.B.t], vi ki (y - 2 + i)] w fun e w' => ∃ g, e = zr (.tuple #[.slice (some ⟨g, 0, none⟩) 2 2, vi ki 0]) ∧ Bx w' g (tL (sh1 f (y - 2 + i)) ++ tL (sh2 f (y - 2 + i))) ∧ Below w.heap.size w w'))
  (w : World) (hL0 : Hid (Cvl.Lens w)) (hT0 : Hid (Clk.Tab w)) :
  Calls Tryz.prog 107 #[.agg #[.bool f.h, vi ki f.fr, vi ki f.off, vi ki f.A.m, vi ki f.A.k, vi ki f.A.d, vi ki f.A.n, vi ki f.A.s, .int .u8 f.A.z, vi ki f.A.v, .string f.A.t, vi ki f.B.m, vi ki f.B.k, vi ki f.B.d, vi ki f.B.n, vi ki f.B.s, .int .u8 f.B.z, vi ki f.B.v, .string f.B.t], vi ki t] w fun e w' => ∃ v, e = zr (.tuple #[v, vi ki 0]) ∧ w'.ownsRow (w.heap.size + 1) 23 4 v 10 (rowsK f (y - 2) 10) ∧ Below w.heap.size w w' := by
 have B0 : Hid (Below w.heap.size w (w.alloc (.cells #[.bool f.h, vi ki f.fr, vi ki f.off, vi ki f.A.m, vi ki f.A.k, vi ki f.A.d, vi ki f.A.n, vi ki f.A.s, .int .u8 f.A.z, vi ki f.A.v, .string f.A.t, vi ki f.B.m, vi ki f.B.k, vi ki f.B.d, vi ki f.B.n, vi ki f.B.s, .int .u8 f.B.z, vi ki f.B.v, .string f.B.t] 32))) := (Below.refl _ _).alloc (Nat.le_refl _) _
 have X0 : Hid (Bx (w.alloc (.cells #[.bool f.h, vi ki f.fr, vi ki f.off, vi ki f.A.m, vi ki f.A.k, vi ki f.A.d, vi ki f.A.n, vi ki f.A.s, .int .u8 f.A.z, vi ki f.A.v, .string f.A.t, vi ki f.B.m, vi ki f.B.k, vi ki f.B.d, vi ki f.B.n, vi ki f.B.s, .int .u8 f.B.z, vi ki f.B.v, .string f.B.t] 32)) w.heap.size [.bool f.h, vi ki f.fr, vi ki f.off, vi ki f.A.m, vi ki f.A.k, vi ki f.A.d, vi ki f.A.n, vi ki f.A.s, .int .u8 f.A.z, vi ki f.A.v, .string f.A.t, vi ki f.B.m, vi ki f.B.k, vi ki f.B.d, vi ki f.B.n, vi ki f.B.s, .int .u8 f.B.z, vi ki f.B.v, .string f.B.t]) := Bx.new w [.bool f.h, vi ki f.fr, vi ki f.off, vi ki f.A.m, vi ki f.A.k, vi ki f.A.d, vi ki f.A.n, vi ki f.A.s, .int .u8 f.A.z, vi ki f.A.v, .string f.A.t, vi ki f.B.m, vi ki f.B.k, vi ki f.B.d, vi ki f.B.n, vi ki f.B.s, .int .u8 f.B.z, vi ki f.B.v, .string f.B.t] _
 have h1 : ¬ y < -4714 := by omega
 have h2 : ¬ 294278 < y := by omega
 obtain ⟨i0, hi, hz0, hz1, hz2⟩ := info_parts infoT
 go_enter Tryz.func107, Tryz.ntmps107
 go_wp2_with (first | (refine wpList_load_mid rfl 32 _ rfl w.heap.size 0 rfl [.bool f.h, vi ki f.fr, vi ki f.off, vi ki f.A.m, vi ki f.A.k, vi ki f.A.d, vi ki f.A.n, vi ki f.A.s, .int .u8 f.A.z, vi ki f.A.v, .string f.A.t, vi ki f.B.m, vi ki f.B.k, vi ki f.B.d, vi ki f.B.n, vi ki f.B.s, .int .u8 f.B.z, vi ki f.B.v, .string f.B.t] _ X0.out.all Tryz.underlying32 rfl (by kernel_rfl) ?_) | fail)
 refine (RC.out _).mono ?_
 rintro e w1 ⟨rfl, hb⟩
 have B1 : Hid (Below w.heap.size w w1) := B0.out.trans (hb.mono B0.out.size)
 have X1 : Hid (Bx w1 w.heap.size [.bool f.h, vi ki f.fr, vi ki f.off, vi ki f.A.m, vi ki f.A.k, vi ki f.A.d, vi ki f.A.n, vi ki f.A.s, .int .u8 f.A.z, vi ki f.A.v, .string f.A.t, vi ki f.B.m, vi ki f.B.k, vi ki f.B.d, vi ki f.B.n, vi ki f.B.s, .int .u8 f.B.z, vi ki f.B.v, .string f.B.t]) := X0.out.below hb
 clear hb B0 X0 RC
 go_wp2_with fail
 refine (YA.out _).mono ?_
 rintro e w2 ⟨rfl, rfl⟩
 go_wp2_with fail
 go_loopw [7, 8] (fun v kv wr => ∃ i : Nat, kv = vi ki (y - 2 + i) ∧ i ≤ 5 ∧ wr.ownsRow (w.heap.size + 1) 23 4 v (2 * i) (rowsK f (y - 2) (2 * i)) ∧ Bx wr w.heap.size [.bool f.h, vi ki f.fr, vi ki f.off, vi ki f.A.m, vi ki f.A.k, vi ki f.A.d, vi ki f.A.n, vi ki f.A.s, .int .u8 f.A.z, vi ki f.A.v, .string f.A.t, vi ki f.B.m, vi ki f.B.k, vi ki f.B.d, vi ki f.B.n, vi ki f.B.s, .int .u8 f.B.z, vi ki f.B.v, .string f.B.t] ∧ Below w.heap.size w wr) (fun _ kv _ => (y + 3 - intOf kv).toNat)
 case atStart => exact ⟨0, by simp, by omega, World.ownsRow_nil _ _ _ _, X1.out, B1.out⟩
 case round =>
  obtain ⟨i, rfl, hi5, hr0, hx0, hb0⟩ := hrel
  have HR : Hid (wr.ownsRow (w.heap.size + 1) 23 4 u7 (2 * i) (rowsK f (y - 2) (2 * i))) := hr0
  have HX : Hid (Bx wr w.heap.size [.bool f.h, vi ki f.fr, vi ki f.off, vi ki f.A.m, vi ki f.A.k, vi ki f.A.d, vi ki f.A.n, vi ki f.A.s, .int .u8 f.A.z, vi ki f.A.v, .string f.A.t, vi ki f.B.m, vi ki f.B.k, vi ki f.B.d, vi ki f.B.n, vi ki f.B.s, .int .u8 f.B.z, vi ki f.B.v, .string f.B.t]) := hx0
  have HB : Hid (Below w.heap.size w wr) := hb0
  clear hr0 hx0 hb0 X1 B1
  by_cases hlt : i < 5
  ·have hle : y - 2 + (i : Int) ≤ y + 2 := by omega
   have YI := YE.out i hlt
   have YJ : Hid (∀ w : World, Cvl.Lens w → Clk.Tab w → Calls Tryz.prog 136 #[.agg #[.bool f.h, vi ki f.fr, vi ki f.off, vi ki f.A.m, vi ki f.A.k, vi ki f.A.d, vi ki f.A.n, vi ki f.A.s, .int .u8 f.A.z, vi ki f.A.v, .string f.A.t, vi ki f.B.m, vi ki f.B.k, vi ki f.B.d, vi ki f.B.n, vi ki f.B.s, .int .u8 f.B.z, vi ki f.B.v, .string f.B.t], vi ki (y - 2 + i)] w fun e w' => ∃ g, e = zr (.tuple #[.slice (some ⟨g, 0, none⟩) 2 2, vi ki 0]) ∧ Bx w' g (tL (sh1 f (y - 2 + i)) ++ tL (sh2 f (y - 2 + i))) ∧ Below w.heap.size w w') := YI
   clear YI
   go_wp2_with (first | (refine wpList_load_mid rfl 32 _ rfl w.heap.size 0 rfl [.bool f.h, vi ki f.fr, vi ki f.off, vi ki f.A.m, vi ki f.A.k, vi ki f.A.d, vi ki f.A.n, vi ki f.A.s, .int .u8 f.A.z, vi ki f.A.v, .string f.A.t, vi ki f.B.m, vi ki f.B.k, vi ki f.B.d, vi ki f.B.n, vi ki f.B.s, .int .u8 f.B.z, vi ki f.B.v, .string f.B.t] _ HX.out.all Tryz.underlying32 rfl (by kernel_rfl) ?_) | fail)
   refine (YJ.out _ (bel_lens HB.out hL0.out) (hT0.out.below HB.out)).mono ?_
   rintro e w3 ⟨g, rfl, hg, hb⟩
   have HR3 : Hid (w3.ownsRow (w.heap.size + 1) 23 4 u7 (2 * i) (rowsK f (y - 2) (2 * i))) := HR.out.kept (grown_of_below (row := none) hb) (by cases u7.ownBlock <;> simp)
   have HX3 : Hid (Bx w3 w.heap.size [.bool f.h, vi ki f.fr, vi ki f.off, vi ki f.A.m, vi ki f.A.k, vi ki f.A.d, vi ki f.A.n, vi ki f.A.s, .int .u8 f.A.z, vi ki f.A.v, .string f.A.t, vi ki f.B.m, vi ki f.B.k, vi ki f.B.d, vi ki f.B.n, vi ki f.B.s, .int .u8 f.B.z, vi ki f.B.v, .string f.B.t]) := HX.out.below hb
   have HB3 : Hid (Below w.heap.size w w3) := HB.out.trans (hb.mono HB.out.size)
   have HG : Hid (Bx w3 g (tL (sh1 f (y - 2 + i)) ++ tL (sh2 f (y - 2 + i)))) := hg
   clear hg hb HR HX HB YJ
   go_wp2_with (at_builtin; refine wpList_append_own _ rfl _ _ 24 rfl (w.heap.size + 1) 23 i0 (.agg #[vi ki 0, vi ki 0, .bool false, .string ⟨#[]⟩]) 4 40 Tryz.underlying24 hi hz0 hz1 hz2 rfl (by decide) u7 (2 * i) (rowsK f (y - 2) (2 * i)) rfl HR3.out ⟨g, 0, none⟩ 2 2 (tL (sh1 f (y - 2 + i)) ++ tL (sh2 f (y - 2 + i))) rfl rfl (fun j u hu => by rw [Addr.add_mid, Nat.zero_add]; exact (HG.out.2 j u hu).1) (fun u hu => tL_mem2 hu) (by unfold maxLen; omega) (by omega) (by have := HX3.out.1; omega) ?_; intro v' w4 hown' hgrow _; have HR4 : Hid (w4.ownsRow (w.heap.size + 1) 23 4 v' (2 * (i + 1)) (rowsK f (y - 2) (2 * (i + 1)))) := (by rw [rowsK_two]; exact hown'); have HX4 : Hid (Bx w4 w.heap.size [.bool f.h, vi ki f.fr, vi ki f.off, vi ki f.A.m, vi ki f.A.k, vi ki f.A.d, vi ki f.A.n, vi ki f.A.s, .int .u8 f.A.z, vi ki f.A.v, .string f.A.t, vi ki f.B.m, vi ki f.B.k, vi ki f.B.d, vi ki f.B.n, vi ki f.B.s, .int .u8 f.B.z, vi ki f.B.v, .string f.B.t]) := HX3.out.grownR hgrow (own_ne HR3.out); have HB4 : Hid (Below w.heap.size w w4) := HB3.out.grown hgrow HB3.out.size (fun r e => Nat.le_of_lt (own_lt HR3.out r e)); obtain ⟨g', cap', rfl⟩ := ownsRow_succ hown'; clear hown' hgrow HR3 HX3 HB3 HG)
   refine ⟨⟨i + 1, by rw [show y - 2 + ((i + 1 : Nat) : Int) = y - 2 + i + 1 by omega], by omega, HR4.out, HX4.out, HB4.out⟩, ?_⟩
   simp [intOf]; omega
  ·obtain rfl : i = 5 := by omega
   have hle : ¬ y - 2 + ((5 : Nat) : Int) ≤ y + 2 := by omega
   go_wp2
   go_ret2
   exact ⟨_, rfl, HR.out, HB.out⟩
theorem near_arg (f : Ft) (t : Int)
  (RC : Hid (∀ w : World, Calls Tryz.prog 151 #[.agg #[.bool f.h, vi ki f.fr, vi ki f.off, vi ki f.A.m, vi ki f.A.k, vi ki f.A.d, vi ki f.A.n, vi ki f.A.s, .int .u8 f.A.z, vi ki f.A.v, .string f.A.t, vi ki f.B.m, vi ki f.B.k, vi ki f.B.d, vi ki f.B.n, vi ki f.B.s, .int .u8 f.B.z, vi ki f.B.v, .string f.B.t]] w fun e w' => e = zr (.bool false) ∧ Below w.heap.size w w')) (w : World) :
  Calls Tryz.prog 107 #[.agg #[.bool f.h, vi ki f.fr, vi ki f.off, vi ki f.A.m, vi ki f.A.k, vi ki f.A.d, vi ki f.A.n, vi ki f.A.s, .int .u8 f.A.z, vi ki f.A.v, .string f.A.t, vi ki f.B.m, vi ki f.B.k, vi ki f.B.d, vi ki f.B.n, vi ki f.B.s, .int .u8 f.B.z, vi ki f.B.v, .string f.B.t], vi ki t] w fun e w' => e = zr (.tuple #[.slice none 0 0, vi ki 1]) ∧ Below w.heap.size w w' := by
 have B0 : Hid (Below w.heap.size w (w.alloc (.cells #[.bool f.h, vi ki f.fr, vi ki f.off, vi ki f.A.m, vi ki f.A.k, vi ki f.A.d, vi ki f.A.n, vi ki f.A.s, .int .u8 f.A.z, vi ki f.A.v, .string f.A.t, vi ki f.B.m, vi ki f.B.k, vi ki f.B.d, vi ki f.B.n, vi ki f.B.s, .int .u8 f.B.z, vi ki f.B.v, .string f.B.t] 32))) := (Below.refl _ _).alloc (Nat.le_refl _) _
 have X0 : Hid (Bx (w.alloc (.cells #[.bool f.h, vi ki f.fr, vi ki f.off, vi ki f.A.m, vi ki f.A.k, vi ki f.A.d, vi ki f.A.n, vi ki f.A.s, .int .u8 f.A.z, vi ki f.A.v, .string f.A.t, vi ki f.B.m, vi ki f.B.k, vi ki f.B.d, vi ki f.B.n, vi ki f.B.s, .int .u8 f.B.z, vi ki f.B.v, .string f.B.t] 32)) w.heap.size [.bool f.h, vi ki f.fr, vi ki f.off, vi ki f.A.m, vi ki f.A.k, vi ki f.A.d, vi ki f.A.n, vi ki f.A.s, .int .u8 f.A.z, vi ki f.A.v, .string f.A.t, vi ki f.B.m, vi ki f.B.k, vi ki f.B.d, vi ki f.B.n, vi ki f.B.s, .int .u8 f.B.z, vi ki f.B.v, .string f.B.t]) := Bx.new w [.bool f.h, vi ki f.fr, vi ki f.off, vi ki f.A.m, vi ki f.A.k, vi ki f.A.d, vi ki f.A.n, vi ki f.A.s, .int .u8 f.A.z, vi ki f.A.v, .string f.A.t, vi ki f.B.m, vi ki f.B.k, vi ki f.B.d, vi ki f.B.n, vi ki f.B.s, .int .u8 f.B.z, vi ki f.B.v, .string f.B.t] _
 go_enter Tryz.func107, Tryz.ntmps107
 go_wp2_with (first | (refine wpList_load_mid rfl 32 _ rfl w.heap.size 0 rfl [.bool f.h, vi ki f.fr, vi ki f.off, vi ki f.A.m, vi ki f.A.k, vi ki f.A.d, vi ki f.A.n, vi ki f.A.s, .int .u8 f.A.z, vi ki f.A.v, .string f.A.t, vi ki f.B.m, vi ki f.B.k, vi ki f.B.d, vi ki f.B.n, vi ki f.B.s, .int .u8 f.B.z, vi ki f.B.v, .string f.B.t] _ X0.out.all Tryz.underlying32 rfl (by kernel_rfl) ?_) | fail)
 refine (RC.out _).mono ?_
 rintro e w1 ⟨rfl, hb⟩
 have B1 : Hid (Below w.heap.size w w1) := B0.out.trans (hb.mono B0.out.size)
 clear hb B0 X0 RC
 go_wp2
 go_ret2
 exact ⟨rfl, B1.out⟩
theorem near_range (f : Ft) (t y : Int) (h : y < -4714 ∨ (¬ y < -4714 ∧ 294278 < y))
  (RC : Hid (∀ w : World, Calls Tryz.prog 151 #[.agg #[.bool f.h, vi ki f.fr, vi ki f.off, vi ki f.A.m, vi ki f.A.k, vi ki f.A.d, vi ki f.A.n, vi ki f.A.s, .int .u8 f.A.z, vi ki f.A.v, .string f.A.t, vi ki f.B.m, vi ki f.B.k, vi ki f.B.d, vi ki f.B.n, vi ki f.B.s, .int .u8 f.B.z, vi ki f.B.v, .string f.B.t]] w fun e w' => e = zr (.bool true) ∧ Below w.heap.size w w'))
  (YA : Hid (∀ w : World, Calls Tryz.prog 54 #[vi ki t] w fun e w' => e = zr (vi ki y) ∧ w' = w)) (w : World) :
  Calls Tryz.prog 107 #[.agg #[.bool f.h, vi ki f.fr, vi ki f.off, vi ki f.A.m, vi ki f.A.k, vi ki f.A.d, vi ki f.A.n, vi ki f.A.s, .int .u8 f.A.z, vi ki f.A.v, .string f.A.t, vi ki f.B.m, vi ki f.B.k, vi ki f.B.d, vi ki f.B.n, vi ki f.B.s, .int .u8 f.B.z, vi ki f.B.v, .string f.B.t], vi ki t] w fun e w' => e = zr (.tuple #[.slice none 0 0, vi ki 10]) ∧ Below w.heap.size w w' := by
 have B0 : Hid (Below w.heap.size w (w.alloc (.cells #[.bool f.h, vi ki f.fr, vi ki f.off, vi ki f.A.m, vi ki f.A.k, vi ki f.A.d, vi ki f.A.n, vi ki f.A.s, .int .u8 f.A.z, vi ki f.A.v, .string f.A.t, vi ki f.B.m, vi ki f.B.k, vi ki f.B.d, vi ki f.B.n, vi ki f.B.s, .int .u8 f.B.z, vi ki f.B.v, .string f.B.t] 32))) := (Below.refl _ _).alloc (Nat.le_refl _) _
 have X0 : Hid (Bx (w.alloc (.cells #[.bool f.h, vi ki f.fr, vi ki f.off, vi ki f.A.m, vi ki f.A.k, vi ki f.A.d, vi ki f.A.n, vi ki f.A.s, .int .u8 f.A.z, vi ki f.A.v, .string f.A.t, vi ki f.B.m, vi ki f.B.k, vi ki f.B.d, vi ki f.B.n, vi ki f.B.s, .int .u8 f.B.z, vi ki f.B.v, .string f.B.t] 32)) w.heap.size [.bool f.h, vi ki f.fr, vi ki f.off, vi ki f.A.m, vi ki f.A.k, vi ki f.A.d, vi ki f.A.n, vi ki f.A.s, .int .u8 f.A.z, vi ki f.A.v, .string f.A.t, vi ki f.B.m, vi ki f.B.k, vi ki f.B.d, vi ki f.B.n, vi ki f.B.s, .int .u8 f.B.z, vi ki f.B.v, .string f.B.t]) := Bx.new w [.bool f.h, vi ki f.fr, vi ki f.off, vi ki f.A.m, vi ki f.A.k, vi ki f.A.d, vi ki f.A.n, vi ki f.A.s, .int .u8 f.A.z, vi ki f.A.v, .string f.A.t, vi ki f.B.m, vi ki f.B.k, vi ki f.B.d, vi ki f.B.n, vi ki f.B.s, .int .u8 f.B.z, vi ki f.B.v, .string f.B.t] _
 rcases h with h | ⟨h, h'⟩ <;>
 ·go_enter Tryz.func107, Tryz.ntmps107
  go_wp2_with (first | (refine wpList_load_mid rfl 32 _ rfl w.heap.size 0 rfl [.bool f.h, vi ki f.fr, vi ki f.off, vi ki f.A.m, vi ki f.A.k, vi ki f.A.d, vi ki f.A.n, vi ki f.A.s, .int .u8 f.A.z, vi ki f.A.v, .string f.A.t, vi ki f.B.m, vi ki f.B.k, vi ki f.B.d, vi ki f.B.n, vi ki f.B.s, .int .u8 f.B.z, vi ki f.B.v, .string f.B.t] _ X0.out.all Tryz.underlying32 rfl (by kernel_rfl) ?_) | fail)
  refine (RC.out _).mono ?_
  rintro e w1 ⟨rfl, hb⟩
  have B1 : Hid (Below w.heap.size w w1) := B0.out.trans (hb.mono B0.out.size)
  clear hb B0 X0 RC
  go_wp2_with fail
  refine (YA.out _).mono ?_
  rintro e w2 ⟨rfl, rfl⟩
  go_wp2
  go_ret2
  exact ⟨rfl, B1.out⟩
theorem rat_run (f : Ft) (t y0 : Int) (K : Nat) (hK : K < 10) (hle : (shK f y0 K).t ≤ t) (hgt : ∀ k, K < k → k < 10 → t < (shK f y0 k).t)
  (NR : Hid (∀ w : World, Cvl.Lens w → Clk.Tab w → Calls Tryz.prog 107 #[.agg #[.bool f.h, vi ki f.fr, vi ki f.off, vi ki f.A.m, vi ki f.A.k, vi ki f.A.d, vi ki f.A.n, vi ki f.A.s, .int .u8 f.A.z, vi ki f.A.v, .string f.A.t, vi ki f.B.m, vi ki f.B.k, vi ki f.B.d, vi ki f.B.n, vi ki f.B.s, .int .u8 f.B.z, vi ki f.B.v, .string f.B.t], vi ki t] w fun e w' => ∃ g cap, e = zr (.tuple #[.slice (some ⟨g, 0, none⟩) 10 cap, vi ki 0]) ∧ Bx w' g (rowsK f y0 10) ∧ Below w.heap.size w w'))
  (w : World) (hL0 : Hid (Cvl.Lens w)) (hT0 : Hid (Clk.Tab w)) :
  Calls Tryz.prog 55 #[.agg #[.bool f.h, vi ki f.fr, vi ki f.off, vi ki f.A.m, vi ki f.A.k, vi ki f.A.d, vi ki f.A.n, vi ki f.A.s, .int .u8 f.A.z, vi ki f.A.v, .string f.A.t, vi ki f.B.m, vi ki f.B.k, vi ki f.B.d, vi ki f.B.n, vi ki f.B.s, .int .u8 f.B.z, vi ki f.B.v, .string f.B.t], vi ki t] w fun e w' => e = zr (.tuple #[.agg (tL (shK f y0 K)).toArray, vi ki 0]) ∧ Below w.heap.size w w' := by
 have HB : Hid (Below w.heap.size w ((w.alloc (.cells #[.bool f.h, vi ki f.fr, vi ki f.off, vi ki f.A.m, vi ki f.A.k, vi ki f.A.d, vi ki f.A.n, vi ki f.A.s, .int .u8 f.A.z, vi ki f.A.v, .string f.A.t, vi ki f.B.m, vi ki f.B.k, vi ki f.B.d, vi ki f.B.n, vi ki f.B.s, .int .u8 f.B.z, vi ki f.B.v, .string f.B.t] 32)).alloc (.cells #[vi ki 0, vi ki 0, .bool false, .string ⟨#[]⟩] 23))) := (((Below.refl _ _).alloc (by simp <;> omega) _).alloc (by simp <;> omega) _)
 have X0 : Hid (Bx ((w.alloc (.cells #[.bool f.h, vi ki f.fr, vi ki f.off, vi ki f.A.m, vi ki f.A.k, vi ki f.A.d, vi ki f.A.n, vi ki f.A.s, .int .u8 f.A.z, vi ki f.A.v, .string f.A.t, vi ki f.B.m, vi ki f.B.k, vi ki f.B.d, vi ki f.B.n, vi ki f.B.s, .int .u8 f.B.z, vi ki f.B.v, .string f.B.t] 32)).alloc (.cells #[vi ki 0, vi ki 0, .bool false, .string ⟨#[]⟩] 23)) (w.heap.size) ([.bool f.h, vi ki f.fr, vi ki f.off, vi ki f.A.m, vi ki f.A.k, vi ki f.A.d, vi ki f.A.n, vi ki f.A.s, .int .u8 f.A.z, vi ki f.A.v, .string f.A.t, vi ki f.B.m, vi ki f.B.k, vi ki f.B.d, vi ki f.B.n, vi ki f.B.s, .int .u8 f.B.z, vi ki f.B.v, .string f.B.t])) := ((Bx.newAt w ([.bool f.h, vi ki f.fr, vi ki f.off, vi ki f.A.m, vi ki f.A.k, vi ki f.A.d, vi ki f.A.n, vi ki f.A.s, .int .u8 f.A.z, vi ki f.A.v, .string f.A.t, vi ki f.B.m, vi ki f.B.k, vi ki f.B.d, vi ki f.B.n, vi ki f.B.s, .int .u8 f.B.z, vi ki f.B.v, .string f.B.t]) _ _ (by simp)).alloc _)
 have X1 : Hid (Bx ((w.alloc (.cells #[.bool f.h, vi ki f.fr, vi ki f.off, vi ki f.A.m, vi ki f.A.k, vi ki f.A.d, vi ki f.A.n, vi ki f.A.s, .int .u8 f.A.z, vi ki f.A.v, .string f.A.t, vi ki f.B.m, vi ki f.B.k, vi ki f.B.d, vi ki f.B.n, vi ki f.B.s, .int .u8 f.B.z, vi ki f.B.v, .string f.B.t] 32)).alloc (.cells #[vi ki 0, vi ki 0, .bool false, .string ⟨#[]⟩] 23)) (w.heap.size + 1) (z4)) := (Bx.newAt (w.alloc (.cells #[.bool f.h, vi ki f.fr, vi ki f.off, vi ki f.A.m, vi ki f.A.k, vi ki f.A.d, vi ki f.A.n, vi ki f.A.s, .int .u8 f.A.z, vi ki f.A.v, .string f.A.t, vi ki f.B.m, vi ki f.B.k, vi ki f.B.d, vi ki f.B.n, vi ki f.B.s, .int .u8 f.B.z, vi ki f.B.v, .string f.B.t] 32)) (z4) _ _ (by simp))
 have L1 : Hid (Cvl.Lens ((w.alloc (.cells #[.bool f.h, vi ki f.fr, vi ki f.off, vi ki f.A.m, vi ki f.A.k, vi ki f.A.d, vi ki f.A.n, vi ki f.A.s, .int .u8 f.A.z, vi ki f.A.v, .string f.A.t, vi ki f.B.m, vi ki f.B.k, vi ki f.B.d, vi ki f.B.n, vi ki f.B.s, .int .u8 f.B.z, vi ki f.B.v, .string f.B.t] 32)).alloc (.cells #[vi ki 0, vi ki 0, .bool false, .string ⟨#[]⟩] 23))) := Lens_below hL0.out HB.out (Lens_lt hL0.out)
 have T1 : Hid (Clk.Tab ((w.alloc (.cells #[.bool f.h, vi ki f.fr, vi ki f.off, vi ki f.A.m, vi ki f.A.k, vi ki f.A.d, vi ki f.A.n, vi ki f.A.s, .int .u8 f.A.z, vi ki f.A.v, .string f.A.t, vi ki f.B.m, vi ki f.B.k, vi ki f.B.d, vi ki f.B.n, vi ki f.B.s, .int .u8 f.B.z, vi ki f.B.v, .string f.B.t] 32)).alloc (.cells #[vi ki 0, vi ki 0, .bool false, .string ⟨#[]⟩] 23))) := hT0.out.below HB.out
 have HLE : Hid ((shK f y0 K).t ≤ t) := hle
 have HGT : Hid (∀ k, K < k → k < 10 → t < (shK f y0 k).t) := hgt
 clear hle hgt
 go_enter Tryz.func55, Tryz.ntmps55
 go_wp2_with (first | (refine wpList_load_mid rfl 32 _ rfl w.heap.size 0 rfl [.bool f.h, vi ki f.fr, vi ki f.off, vi ki f.A.m, vi ki f.A.k, vi ki f.A.d, vi ki f.A.n, vi ki f.A.s, .int .u8 f.A.z, vi ki f.A.v, .string f.A.t, vi ki f.B.m, vi ki f.B.k, vi ki f.B.d, vi ki f.B.n, vi ki f.B.s, .int .u8 f.B.z, vi ki f.B.v, .string f.B.t] _ X0.out.all Tryz.underlying32 rfl (by kernel_rfl) ?_) | fail)
 refine (NR.out _ L1.out T1.out).mono ?_
 rintro e w1 ⟨g, cap, rfl, R1, hb⟩
 have B1 : Hid (Below w.heap.size w w1) := HB.out.trans (hb.mono HB.out.size)
 have Y1 : Hid (Bx w1 (w.heap.size + 1) z4) := X1.out.below hb
 have H1 : Hid (Bx w1 g (rowsK f y0 10)) := R1
 clear hb HB X0 X1 L1 T1 NR R1
 go_wp2_with fail
 go_loopw [8] (fun iv wr => ∃ i : Nat, iv = vi ki (i : Int) ∧ K ≤ i ∧ i ≤ 9 ∧ wr = w1) (fun iv _ => (intOf iv).toNat - K)
 case atStart => exact ⟨9, rfl, by omega, by omega, rfl⟩
 case round =>
  obtain ⟨i, rfl, hi1, hi2, rfl⟩ := hrel
  have key : ∀ c, c < 4 → ∀ v, (tL (shK f y0 i))[c]? = some v → wr.cell? ⟨g, i * 4 + c, none⟩ = some v := fun c hc v hv => by
   rw [show i * 4 + c = 4 * i + c by omega]
   exact (H1.out.2 _ _ ((rowsK_at f y0 i c hc 10 (by omega)).trans hv)).1
  have k0 := key 0 (by omega) _ rfl
  have k1 := key 1 (by omega) _ rfl
  have k2 := key 2 (by omega) _ rfl
  have k3 := key 3 (by omega) _ rfl
  simp only [Nat.add_zero] at k0
  clear key
  by_cases e : i = K
  ·subst e
   have hq : (shK f y0 i).t ≤ t := HLE.out
   go_wp2_with (first | (refine wpList_store_mid rfl 23 _ _ rfl (w.heap.size + 1) 0 #[vi ki (shK f y0 i).t, vi ki (shK f y0 i).o, .bool (shK f y0 i).d, .string (shK f y0 i).a] rfl rfl Y1.out.there (by kernel_rfl) (tL_one (shK f y0 i)) ?_; refine gen_list (fun V => Bx V (w.heap.size + 1) (tL (shK f y0 i)) ∧ Below w.heap.size w V) ⟨Y1.out.setAll (tL (shK f y0 i)) rfl, below_setCells (by omega) _ _ _ B1.out⟩ ?_; rintro V ⟨U1, UB⟩) | fail)
   exact bodyPost_ret (v := .tuple #[.agg (tL (shK f y0 i)).toArray, vi ki 0]) (results_cell_t rfl _ _ _ _ _ rfl rfl (run_loadVar_mid _ _ _ _ (tL (shK f y0 i)) _ U1.all Tryz.underlying23 rfl (by kernel_rfl))) rfl ⟨rfl, UB⟩
  ·have hq : ¬ (shK f y0 i).t ≤ t := by have := HGT.out i (by omega) (by omega); omega
   obtain ⟨j, rfl⟩ : ∃ j, i = j + 1 := ⟨i - 1, by omega⟩
   go_wp2
   go_roundw
   case rel => exact ⟨j, by simp, by omega, by omega, by first | rfl | trivial⟩
   case measure => simp [intOf]; omega
theorem rat_no (f : Ft) (t er : Int)
  (NR : Hid (∀ w : World, Calls Tryz.prog 107 #[.agg #[.bool f.h, vi ki f.fr, vi ki f.off, vi ki f.A.m, vi ki f.A.k, vi ki f.A.d, vi ki f.A.n, vi ki f.A.s, .int .u8 f.A.z, vi ki f.A.v, .string f.A.t, vi ki f.B.m, vi ki f.B.k, vi ki f.B.d, vi ki f.B.n, vi ki f.B.s, .int .u8 f.B.z, vi ki f.B.v, .string f.B.t], vi ki t] w fun e w' => e = zr (.tuple #[.slice none 0 0, vi ki er]) ∧ Below w.heap.size w w'))
  (w : World) :
  Calls Tryz.prog 55 #[.agg #[.bool f.h, vi ki f.fr, vi ki f.off, vi ki f.A.m, vi ki f.A.k, vi ki f.A.d, vi ki f.A.n, vi ki f.A.s, .int .u8 f.A.z, vi ki f.A.v, .string f.A.t, vi ki f.B.m, vi ki f.B.k, vi ki f.B.d, vi ki f.B.n, vi ki f.B.s, .int .u8 f.B.z, vi ki f.B.v, .string f.B.t], vi ki t] w fun e w' => e = zr (.tuple #[.agg z4.toArray, vi ki er]) ∧ Below w.heap.size w w' := by
 have HB : Hid (Below w.heap.size w ((w.alloc (.cells #[.bool f.h, vi ki f.fr, vi ki f.off, vi ki f.A.m, vi ki f.A.k, vi ki f.A.d, vi ki f.A.n, vi ki f.A.s, .int .u8 f.A.z, vi ki f.A.v, .string f.A.t, vi ki f.B.m, vi ki f.B.k, vi ki f.B.d, vi ki f.B.n, vi ki f.B.s, .int .u8 f.B.z, vi ki f.B.v, .string f.B.t] 32)).alloc (.cells #[vi ki 0, vi ki 0, .bool false, .string ⟨#[]⟩] 23))) := (((Below.refl _ _).alloc (by simp <;> omega) _).alloc (by simp <;> omega) _)
 have X0 : Hid (Bx ((w.alloc (.cells #[.bool f.h, vi ki f.fr, vi ki f.off, vi ki f.A.m, vi ki f.A.k, vi ki f.A.d, vi ki f.A.n, vi ki f.A.s, .int .u8 f.A.z, vi ki f.A.v, .string f.A.t, vi ki f.B.m, vi ki f.B.k, vi ki f.B.d, vi ki f.B.n, vi ki f.B.s, .int .u8 f.B.z, vi ki f.B.v, .string f.B.t] 32)).alloc (.cells #[vi ki 0, vi ki 0, .bool false, .string ⟨#[]⟩] 23)) (w.heap.size) ([.bool f.h, vi ki f.fr, vi ki f.off, vi ki f.A.m, vi ki f.A.k, vi ki f.A.d, vi ki f.A.n, vi ki f.A.s, .int .u8 f.A.z, vi ki f.A.v, .string f.A.t, vi ki f.B.m, vi ki f.B.k, vi ki f.B.d, vi ki f.B.n, vi ki f.B.s, .int .u8 f.B.z, vi ki f.B.v, .string f.B.t])) := ((Bx.newAt w ([.bool f.h, vi ki f.fr, vi ki f.off, vi ki f.A.m, vi ki f.A.k, vi ki f.A.d, vi ki f.A.n, vi ki f.A.s, .int .u8 f.A.z, vi ki f.A.v, .string f.A.t, vi ki f.B.m, vi ki f.B.k, vi ki f.B.d, vi ki f.B.n, vi ki f.B.s, .int .u8 f.B.z, vi ki f.B.v, .string f.B.t]) _ _ (by simp)).alloc _)
 have X1 : Hid (Bx ((w.alloc (.cells #[.bool f.h, vi ki f.fr, vi ki f.off, vi ki f.A.m, vi ki f.A.k, vi ki f.A.d, vi ki f.A.n, vi ki f.A.s, .int .u8 f.A.z, vi ki f.A.v, .string f.A.t, vi ki f.B.m, vi ki f.B.k, vi ki f.B.d, vi ki f.B.n, vi ki f.B.s, .int .u8 f.B.z, vi ki f.B.v, .string f.B.t] 32)).alloc (.cells #[vi ki 0, vi ki 0, .bool false, .string ⟨#[]⟩] 23)) (w.heap.size + 1) (z4)) := (Bx.newAt (w.alloc (.cells #[.bool f.h, vi ki f.fr, vi ki f.off, vi ki f.A.m, vi ki f.A.k, vi ki f.A.d, vi ki f.A.n, vi ki f.A.s, .int .u8 f.A.z, vi ki f.A.v, .string f.A.t, vi ki f.B.m, vi ki f.B.k, vi ki f.B.d, vi ki f.B.n, vi ki f.B.s, .int .u8 f.B.z, vi ki f.B.v, .string f.B.t] 32)) (z4) _ _ (by simp))
 go_enter Tryz.func55, Tryz.ntmps55
 go_wp2_with (first | (refine wpList_load_mid rfl 32 _ rfl w.heap.size 0 rfl [.bool f.h, vi ki f.fr, vi ki f.off, vi ki f.A.m, vi ki f.A.k, vi ki f.A.d, vi ki f.A.n, vi ki f.A.s, .int .u8 f.A.z, vi ki f.A.v, .string f.A.t, vi ki f.B.m, vi ki f.B.k, vi ki f.B.d, vi ki f.B.n, vi ki f.B.s, .int .u8 f.B.z, vi ki f.B.v, .string f.B.t] _ X0.out.all Tryz.underlying32 rfl (by kernel_rfl) ?_) | fail)
 refine (NR.out _).mono ?_
 rintro e w1 ⟨rfl, hb⟩
 have B1 : Hid (Below w.heap.size w w1) := HB.out.trans (hb.mono HB.out.size)
 have Y1 : Hid (Bx w1 (w.heap.size + 1) z4) := X1.out.below hb
 clear hb HB X0 X1 NR
 go_wp2_with fail
 go_loopw [8] (fun iv wr => iv = vi ki (-1) ∧ wr = w1) (fun _ _ => 0)
 case atStart => exact ⟨rfl, rfl⟩
 case round =>
  obtain ⟨rfl, rfl⟩ := hrel
  go_wp2_with (first | (refine wpList_store_mid rfl 23 _ _ rfl (w.heap.size + 1) 0 z4.toArray rfl rfl Y1.out.there (by kernel_rfl) z4_one ?_; refine gen_list (fun V => Bx V (w.heap.size + 1) z4 ∧ Below w.heap.size w V) ⟨Y1.out.setAll z4 rfl, below_setCells (by omega) _ _ _ B1.out⟩ ?_; rintro V ⟨U1, UB⟩) | fail)
  exact bodyPost_ret (v := .tuple #[.agg z4.toArray, vi ki er]) (results_cell_t rfl _ _ _ _ _ rfl rfl (run_loadVar_mid _ _ _ _ z4 _ U1.all Tryz.underlying23 rfl (by kernel_rfl))) rfl ⟨rfl, UB⟩
end Go.Proofs.YtklehbmghjcmaaaGreatDoor.Fn
namespace Go.Proofs.YtklehbmghjcmaaaGreatDoor
open Go.RowKit Sr
end Go.Proofs.YtklehbmghjcmaaaGreatDoor
namespace Go.Proofs.YtklehbmghjcmaaaGreatDoor
open Go.RowKit
open _root_.Go.Proofs.YtklehbmghjcmaaaGreatDoor.Fn
def z9 : Tr := ⟨0, 0, false, ⟨#[]⟩⟩
def FAt (f : Ft) (t : Int) (p : Tr) (er : Int) : Prop :=
 (er = 0 ∧ okF f = true ∧ ∃ y j, YAt t y ∧ -4714 ≤ y ∧ y ≤ 294278 ∧ St f t j ∧ p = gs f j) ∨ (er ≠ 0 ∧ p = z9 ∧ (okF f = false ∨ ∃ y, YAt t y ∧ (y < -4714 ∨ 294278 < y)))
theorem fat_any (f : Ft) (t : Int) (t1 : -9223372036854775808 ≤ t) (t2 : t ≤ 9223372036854775807) :
  ∃ p er, FAt f t p er ∧ ∀ w : World, Cvl.Lens w → Clk.Tab w → Calls Tryz.prog 125 #[.agg #[.bool f.h, vi ki f.fr, vi ki f.off, vi ki f.A.m, vi ki f.A.k, vi ki f.A.d, vi ki f.A.n, vi ki f.A.s, .int .u8 f.A.z, vi ki f.A.v, .string f.A.t, vi ki f.B.m, vi ki f.B.k, vi ki f.B.d, vi ki f.B.n, vi ki f.B.s, .int .u8 f.B.z, vi ki f.B.v, .string f.B.t], vi ki t] w fun e w' => e = zr (.tuple #[.agg #[vi ki p.t, vi ki p.o, .bool p.d, .string p.a], vi ki er]) ∧ Below w.heap.size w w' := by
 cases hf : okF f with
 | false => exact ⟨z9, 1, .inr ⟨by decide, rfl, .inl hf⟩, fun w hL hT => at_run f t z9 z9 1 (fun w hL hT => around_arg f t hf w hL hT) w hL hT⟩
 | true =>
  obtain ⟨y, hy⟩ := yat_is t
  by_cases hr : y < -4714 ∨ 294278 < y
  ·exact ⟨z9, 10, .inr ⟨by decide, rfl, .inr ⟨y, hy, hr⟩⟩, fun w hL hT => at_run f t z9 z9 10 (fun w hL hT => around_range f t y hf hy t1 t2 (by omega) w hL hT) w hL hT⟩
  ·have y1 : -4714 ≤ y := by omega
   have y2 : y ≤ 294278 := by omega
   obtain ⟨K, k1, k2, hK, hlo, hS⟩ := findK (lh_of hf) hy y1 y2
   refine ⟨_, 0, .inl ⟨rfl, hf, y, _, hy, y1, y2, hS, rfl⟩, fun w hL hT => at_run f t _ (gs f (2 * (y - 1) + K - 1 + 1)) 0 (fun w hL hT => ?_) w hL hT⟩
   have R := around_ok f t y K hf hy y1 y2 t1 t2 k1 k2 hK hlo w hL hT
   have e1 : shK f (y - 1) (K - 1) = gs f (2 * (y - 1) + K - 1) := by rw [shK_gs]; congr 1; omega
   have e2 : shK f (y - 1) K = gs f (2 * (y - 1) + K - 1 + 1) := by rw [shK_gs]; congr 1; omega
   rw [e1, e2] at R
   exact R
end Go.Proofs.YtklehbmghjcmaaaGreatDoor
namespace Go.Proofs.YtklehbmghjcmaaaGreatDoor
open Go.RowKit Sr
open _root_.Go.Proofs.YtklehbmghjcmaaaGreatDoor.Fn (bel_lens)
theorem rf_year (t : TbR) (sv : Value) (y : Int) (hy : y < 1800 ∨ 2110 < y) (YA : Hid (∀ w : World, Cvl.Lens w → Calls Tryz.prog 124 #[vi ki t.foot.fr] w fun e w' => e = zr (vi ki y) ∧ w' = w)) (w : World) (HL : Hid (Cvl.Lens w)) :
  Calls Tryz.prog 75 #[.agg (tbL t sv).toArray] w fun e w' => e = zr (.bool false) ∧ Below w.heap.size w w' := by
 have X1 : Hid (Bx (w.alloc (.cells (tbL t sv).toArray 44)) w.heap.size (tbL t sv)) := Bx.new w (tbL t sv) 44
 have B1 : Hid (Below w.heap.size w (w.alloc (.cells (tbL t sv).toArray 44))) := (Below.refl _ _).alloc (Nat.le_refl _) _
 have S1 : Hid ((w.alloc (.cells (tbL t sv).toArray 44)).heap.size = w.heap.size + 1) := World.size_alloc _ _
 obtain ⟨FL, hFL⟩ : ∃ FL, Fn.fL t.foot = FL := ⟨_, rfl⟩
 have hF19 : FL.length = 19 := by rw [← hFL]; rfl
 have hA19 : FL.toArray.size = 19 := by simp [hF19]
 have hone : FL.toArray.all (·.oneCell') = true := by rw [← hFL]; simp [Fn.fL, Value.oneCell']
 have hF1 : FL[1]? = some (vi ki t.foot.fr) := by rw [← hFL]; rfl
 go_enter Tryz.func75, Tryz.ntmps75
 generalize hUA : (tbL t sv).toArray = UA at *
 go_upto_region 1 with fail
 refine gen_code (fun V => Bx V w.heap.size (tbL t sv) ∧ Below w.heap.size w V ∧ V.heap.size = w.heap.size + 1) ⟨X1.out, B1.out, S1.out⟩ ?_
 clear X1 B1 S1
 rintro V ⟨XV, BV, SV⟩
 have HR : Hid (V.rangeAt w.heap.size 6 FL) := by
  show V.rangeAt _ _ _
  rw [← hFL]
  exact XV.rng (.string t.nm :: (trC t.first ++ [sv])) (Fn.fL t.foot) [] rfl
 have X2 : Hid (Bx (V.alloc (.cells [.bool false, vi ki 0, vi ki 0, vi ki 0, vi ki 0, vi ki 0, vi ki 0, vi ki 0, .int .u8 0, vi ki 0, .string ⟨#[]⟩, vi ki 0, vi ki 0, vi ki 0, vi ki 0, vi ki 0, .int .u8 0, vi ki 0, .string ⟨#[]⟩].toArray 42)) (w.heap.size + 1) [.bool false, vi ki 0, vi ki 0, vi ki 0, vi ki 0, vi ki 0, vi ki 0, vi ki 0, .int .u8 0, vi ki 0, .string ⟨#[]⟩, vi ki 0, vi ki 0, vi ki 0, vi ki 0, vi ki 0, .int .u8 0, vi ki 0, .string ⟨#[]⟩]) := Bx.newAt V _ 42 _ SV
 have HTH : Hid ((V.alloc (.cells [.bool false, vi ki 0, vi ki 0, vi ki 0, vi ki 0, vi ki 0, vi ki 0, vi ki 0, .int .u8 0, vi ki 0, .string ⟨#[]⟩, vi ki 0, vi ki 0, vi ki 0, vi ki 0, vi ki 0, .int .u8 0, vi ki 0, .string ⟨#[]⟩].toArray 42)).there (w.heap.size + 1) 0 FL.toArray.size) := by show World.there _ _ _ _; rw [hA19]; exact X2.out.there
 have B2 : Hid (Below w.heap.size w (V.alloc (.cells [.bool false, vi ki 0, vi ki 0, vi ki 0, vi ki 0, vi ki 0, vi ki 0, vi ki 0, .int .u8 0, vi ki 0, .string ⟨#[]⟩, vi ki 0, vi ki 0, vi ki 0, vi ki 0, vi ki 0, .int .u8 0, vi ki 0, .string ⟨#[]⟩].toArray 42))) := BV.alloc BV.size _
 have X3 : Hid (Bx (V.alloc (.cells [.bool false, vi ki 0, vi ki 0, vi ki 0, vi ki 0, vi ki 0, vi ki 0, vi ki 0, .int .u8 0, vi ki 0, .string ⟨#[]⟩, vi ki 0, vi ki 0, vi ki 0, vi ki 0, vi ki 0, .int .u8 0, vi ki 0, .string ⟨#[]⟩].toArray 42)) w.heap.size (tbL t sv)) := XV.alloc _
 clear XV BV
 go_upto_region 2 with (first | (refine wpList_load_mid rfl 42 _ rfl w.heap.size 6 rfl FL _ HR.out Tryz.underlying42 rfl (by rw [hF19]; kernel_rfl) ?_) | (refine wpList_store_mid rfl 42 _ _ rfl (w.heap.size + 1) 0 FL.toArray rfl rfl HTH.out (by rw [hA19]; kernel_rfl) hone ?_; refine gen_list (fun V => Bx V (w.heap.size + 1) FL ∧ Below w.heap.size w V ∧ Bx V w.heap.size (tbL t sv)) ⟨X2.out.setAll FL (by rw [hF19]; rfl), below_setCells (Nat.le_succ _) _ _ _ B2.out, X3.out.setOther (by omega) FL 0⟩ ?_; clear X2 B2 X3 HTH HR SV; rintro V2 ⟨XF, BV, XV⟩) | fail)
 have f1 := XF.c 1 hF1
 have HLV : Hid (Cvl.Lens V2) := bel_lens BV HL.out
 have HXF : Hid (Bx V2 (w.heap.size + 1) FL) := XF
 have HXV : Hid (Bx V2 w.heap.size (tbL t sv)) := XV
 have HBV : Hid (Below w.heap.size w V2) := BV
 clear XF XV BV
 go_wp2_with fail
 refine (YA.out V2 HLV.out).mono ?_
 rintro e w1 ⟨rfl, hw1⟩
 obtain rfl := hw1.symm
 clear hw1
 go_wp2
 all_goals (first | (go_ret; exact ⟨rfl, HBV.out⟩) | skip)
theorem rf_last (t : TbR) (sv : Value) (y : Int) (hy1 : 1800 ≤ y) (hy2 : y ≤ 2110) (YA : Hid (∀ w : World, Cvl.Lens w → Calls Tryz.prog 124 #[vi ki t.foot.fr] w fun e w' => e = zr (vi ki y) ∧ w' = w)) (x : TrR) (hx : t.trs[t.trs.length - 1]? = some x) (hle : t.foot.fr ≤ x.at_) (w : World) (HL : Hid (Cvl.Lens w)) (HT : Hid (TrAt w sv t.trs)) :
  Calls Tryz.prog 75 #[.agg (tbL t sv).toArray] w fun e w' => e = zr (.bool false) ∧ Below w.heap.size w w' := by
 obtain ⟨⟨ao, c, hsv⟩, hml, _⟩ := HT.out
 obtain ⟨n, hn⟩ : ∃ n, t.trs.length = n := ⟨_, rfl⟩
 rw [hn] at hsv hml
 subst hsv
 unfold maxLen at hml
 obtain ⟨g, o, c', hsv9, hrg⟩ := HT.out.row hx
 rw [hn] at hsv9 hrg
 simp only [Value.slice.injEq, true_and] at hsv9
 obtain ⟨rfl, rfl⟩ := hsv9
 have hnp : 0 < n := by have := (List.getElem?_eq_some_iff.1 hx).1; omega
 have hg : g < w.heap.size := by
  rcases HT.out.2.2 with h0 | ⟨g', o', c9, e9, h9, _⟩
  ·rw [h0] at hn; simp at hn; omega
  ·simp only [Value.slice.injEq, Option.some.injEq, Addr.mk.injEq] at e9; omega
 have hwr : IntKind.i64.wrap ((n : Int) - 1) = (n : Int) - 1 := by rw [IntKind.wrap_i64]; omega
 have X1 : Hid (Bx (w.alloc (.cells (tbL t (.slice (some ⟨g, o, none⟩) n c)).toArray 44)) w.heap.size (tbL t (.slice (some ⟨g, o, none⟩) n c))) := Bx.new w (tbL t (.slice (some ⟨g, o, none⟩) n c)) 44
 have B1 : Hid (Below w.heap.size w (w.alloc (.cells (tbL t (.slice (some ⟨g, o, none⟩) n c)).toArray 44))) := (Below.refl _ _).alloc (Nat.le_refl _) _
 have S1 : Hid ((w.alloc (.cells (tbL t (.slice (some ⟨g, o, none⟩) n c)).toArray 44)).heap.size = w.heap.size + 1) := World.size_alloc _ _
 obtain ⟨FL, hFL⟩ : ∃ FL, Fn.fL t.foot = FL := ⟨_, rfl⟩
 have hF19 : FL.length = 19 := by rw [← hFL]; rfl
 have hA19 : FL.toArray.size = 19 := by simp [hF19]
 have hone : FL.toArray.all (·.oneCell') = true := by rw [← hFL]; simp [Fn.fL, Value.oneCell']
 have hF1 : FL[1]? = some (vi ki t.foot.fr) := by rw [← hFL]; rfl
 go_enter Tryz.func75, Tryz.ntmps75
 generalize hUA : (tbL t (.slice (some ⟨g, o, none⟩) n c)).toArray = UA at *
 go_upto_region 1 with fail
 refine gen_code (fun V => Bx V w.heap.size (tbL t (.slice (some ⟨g, o, none⟩) n c)) ∧ Below w.heap.size w V ∧ V.heap.size = w.heap.size + 1) ⟨X1.out, B1.out, S1.out⟩ ?_
 clear X1 B1 S1
 rintro V ⟨XV, BV, SV⟩
 have HR : Hid (V.rangeAt w.heap.size 6 FL) := by
  show V.rangeAt _ _ _
  rw [← hFL]
  exact XV.rng (.string t.nm :: (trC t.first ++ [.slice (some ⟨g, o, none⟩) n c])) (Fn.fL t.foot) [] rfl
 have X2 : Hid (Bx (V.alloc (.cells [.bool false, vi ki 0, vi ki 0, vi ki 0, vi ki 0, vi ki 0, vi ki 0, vi ki 0, .int .u8 0, vi ki 0, .string ⟨#[]⟩, vi ki 0, vi ki 0, vi ki 0, vi ki 0, vi ki 0, .int .u8 0, vi ki 0, .string ⟨#[]⟩].toArray 42)) (w.heap.size + 1) [.bool false, vi ki 0, vi ki 0, vi ki 0, vi ki 0, vi ki 0, vi ki 0, vi ki 0, .int .u8 0, vi ki 0, .string ⟨#[]⟩, vi ki 0, vi ki 0, vi ki 0, vi ki 0, vi ki 0, .int .u8 0, vi ki 0, .string ⟨#[]⟩]) := Bx.newAt V _ 42 _ SV
 have HTH : Hid ((V.alloc (.cells [.bool false, vi ki 0, vi ki 0, vi ki 0, vi ki 0, vi ki 0, vi ki 0, vi ki 0, .int .u8 0, vi ki 0, .string ⟨#[]⟩, vi ki 0, vi ki 0, vi ki 0, vi ki 0, vi ki 0, .int .u8 0, vi ki 0, .string ⟨#[]⟩].toArray 42)).there (w.heap.size + 1) 0 FL.toArray.size) := by show World.there _ _ _ _; rw [hA19]; exact X2.out.there
 have B2 : Hid (Below w.heap.size w (V.alloc (.cells [.bool false, vi ki 0, vi ki 0, vi ki 0, vi ki 0, vi ki 0, vi ki 0, vi ki 0, .int .u8 0, vi ki 0, .string ⟨#[]⟩, vi ki 0, vi ki 0, vi ki 0, vi ki 0, vi ki 0, .int .u8 0, vi ki 0, .string ⟨#[]⟩].toArray 42))) := BV.alloc BV.size _
 have X3 : Hid (Bx (V.alloc (.cells [.bool false, vi ki 0, vi ki 0, vi ki 0, vi ki 0, vi ki 0, vi ki 0, vi ki 0, .int .u8 0, vi ki 0, .string ⟨#[]⟩, vi ki 0, vi ki 0, vi ki 0, vi ki 0, vi ki 0, .int .u8 0, vi ki 0, .string ⟨#[]⟩].toArray 42)) w.heap.size (tbL t (.slice (some ⟨g, o, none⟩) n c))) := XV.alloc _
 clear XV BV
 go_upto_region 2 with (first | (refine wpList_load_mid rfl 42 _ rfl w.heap.size 6 rfl FL _ HR.out Tryz.underlying42 rfl (by rw [hF19]; kernel_rfl) ?_) | (refine wpList_store_mid rfl 42 _ _ rfl (w.heap.size + 1) 0 FL.toArray rfl rfl HTH.out (by rw [hA19]; kernel_rfl) hone ?_; refine gen_list (fun V => Bx V (w.heap.size + 1) FL ∧ Below w.heap.size w V ∧ Bx V w.heap.size (tbL t (.slice (some ⟨g, o, none⟩) n c))) ⟨X2.out.setAll FL (by rw [hF19]; rfl), below_setCells (Nat.le_succ _) _ _ _ B2.out, X3.out.setOther (by omega) FL 0⟩ ?_; clear X2 B2 X3 HTH HR SV; rintro V2 ⟨XF, BV, XV⟩) | fail)
 have f1 := XF.c 1 hF1
 have HLV : Hid (Cvl.Lens V2) := bel_lens BV HL.out
 have HXF : Hid (Bx V2 (w.heap.size + 1) FL) := XF
 have HXV : Hid (Bx V2 w.heap.size (tbL t (.slice (some ⟨g, o, none⟩) n c))) := XV
 have HBV : Hid (Below w.heap.size w V2) := BV
 clear XF XV BV
 go_wp2_with fail
 refine (YA.out V2 HLV.out).mono ?_
 rintro e w1 ⟨rfl, hw1⟩
 obtain rfl := hw1.symm
 clear hw1
 have v5 := HXV.out.c 5 (v := .slice (some ⟨g, o, none⟩) n c) rfl
 go_upto_region 6 with fail
 have HS6 : Hid ((fun W : World => W.cell? ⟨w.heap.size + 1, 1, none⟩ = some (vi ki t.foot.fr) ∧ W.cell? ⟨w.heap.size, 5, none⟩ = some (.slice (some ⟨g, o, none⟩) n c) ∧ W.cell? ⟨g, o + (n - 1) * 4, none⟩ = some (vi ki x.at_)) V2) := ⟨f1, v5, (HBV.out.cell (p := ⟨g, o + (n - 1) * 4, none⟩) hg).trans (hrg 0 _ rfl)⟩
 refine wp_region_held_drew (S := (fun W : World => W.cell? ⟨w.heap.size + 1, 1, none⟩ = some (vi ki t.foot.fr) ∧ W.cell? ⟨w.heap.size, 5, none⟩ = some (.slice (some ⟨g, o, none⟩) n c) ∧ W.cell? ⟨g, o + (n - 1) * 4, none⟩ = some (vi ki x.at_))) (by kernel_rfl) (by simpa [go_sem] using HS6.out) (fun hHeld => ?_)
 refine tks 0 ⟨some 22, _, _, _, _, none⟩ rfl ?_
 simp only [za, zb, zc, zd]
 refine tks 1 ⟨some 23, _, _, _, _, none⟩ rfl ?_
 simp only [za, zb, zc, zd]
 refine tks 2 ⟨some 24, _, _, _, _, none⟩ rfl ?_
 simp only [za, zb, zc, zd]
 refine tks 3 ⟨some 25, _, _, _, _, some (2, true)⟩ rfl ?_
 simp only [za, zb, zc, zd]
 refine tk (v := ?_) 4 ⟨some 26, _, _, _, _, some (2, true)⟩ rfl ?_ ?_
 case refine_2 => (intro w9 hSw; obtain ⟨s1, s2, s3⟩ := hSw; go_simp; try with_reducible rfl)
 simp only [za, zb, zc, zd]
 refine tks 5 ⟨some 27, _, _, _, _, some (2, true)⟩ rfl ?_
 simp only [za, zb, zc, zd]
 refine tk (v := ?_) 6 ⟨some 28, _, _, _, _, some (2, true)⟩ rfl ?_ ?_
 case refine_2 => (intro w9 hSw; obtain ⟨s1, s2, s3⟩ := hSw; go_simp; try with_reducible rfl)
 simp only [za, zb, zc, zd]
 refine tks 7 ⟨some 29, _, _, _, _, some (2, true)⟩ rfl ?_
 simp only [za, zb, zc, zd]
 refine tks 8 ⟨some 30, _, _, _, _, some (2, true)⟩ rfl ?_
 simp only [za, zb, zc, zd]
 refine wpAnyH_take (i := 9) (v := .pointer (some ⟨g, o + (n - 1) * 4, none⟩)) (oi := ⟨some 31, _, _, _, _, some (2, true)⟩) rfl (by kernel_rfl) (by kernel_rfl) (by kernel_rfl) (fun _ _ _ h => h) (Or.inl ⟨by kernel_rfl, ?_⟩) (by assumption) ?_
 case refine_1 => (rintro w9 -; go_simp; intro h9; exact absurd (h9 (by omega)) (by omega))
 simp only [za, zb, zc, zd]
 refine tks 10 ⟨some 32, _, _, _, _, some (2, true)⟩ rfl ?_
 simp only [za, zb, zc, zd]
 refine tk (v := ?_) 11 ⟨some 33, _, _, _, _, some (2, true)⟩ rfl ?_ ?_
 case refine_2 => (intro w9 hSw; obtain ⟨s1, s2, s3⟩ := hSw; go_simp; try with_reducible rfl)
 simp only [za, zb, zc, zd]
 refine tks 12 ⟨some 34, _, _, _, _, some (2, true)⟩ rfl ?_
 simp only [za, zb, zc, zd]
 refine tks 13 ⟨some 35, _, _, _, _, none⟩ rfl ?_
 simp only [za, zb, zc, zd]
 clear hHeld
 refine wpAnyH_done (by kernel_rfl) ?_ _
 go_wp2
 go_ret
 exact ⟨rfl, (HBV.out.trans (((Below.refl _ _).drew).mono HBV.out.size))⟩
theorem rf_some (t : TbR) (sv : Value) (y : Int) (hy1 : 1800 ≤ y) (hy2 : y ≤ 2110) (YA : Hid (∀ w : World, Cvl.Lens w → Calls Tryz.prog 124 #[vi ki t.foot.fr] w fun e w' => e = zr (vi ki y) ∧ w' = w)) (p : Fn.Tr) (er : Int) (FA : Hid (∀ w : World, Cvl.Lens w → Clk.Tab w → Calls Tryz.prog 125 #[.agg (Fn.fL t.foot).toArray, vi ki t.foot.fr] w fun e w' => e = zr (.tuple #[.agg #[vi ki p.t, vi ki p.o, .bool p.d, .string p.a], vi ki er]) ∧ Below w.heap.size w w')) (x : TrR) (hx : t.trs[t.trs.length - 1]? = some x) (hle : ¬ t.foot.fr ≤ x.at_) (w : World) (HL : Hid (Cvl.Lens w)) (HTb : Hid (Clk.Tab w)) (HT : Hid (TrAt w sv t.trs)) :
  Calls Tryz.prog 75 #[.agg (tbL t sv).toArray] w fun e w' => e = zr (.bool (decide (er = 0) && decide (p.t = t.foot.fr))) ∧ Below w.heap.size w w' := by
 obtain ⟨⟨ao, c, hsv⟩, hml, _⟩ := HT.out
 obtain ⟨n, hn⟩ : ∃ n, t.trs.length = n := ⟨_, rfl⟩
 rw [hn] at hsv hml
 subst hsv
 unfold maxLen at hml
 obtain ⟨g, o, c', hsv9, hrg⟩ := HT.out.row hx
 rw [hn] at hsv9 hrg
 simp only [Value.slice.injEq, true_and] at hsv9
 obtain ⟨rfl, rfl⟩ := hsv9
 have hnp : 0 < n := by have := (List.getElem?_eq_some_iff.1 hx).1; omega
 have hg : g < w.heap.size := by
  rcases HT.out.2.2 with h0 | ⟨g', o', c9, e9, h9, _⟩
  ·rw [h0] at hn; simp at hn; omega
  ·simp only [Value.slice.injEq, Option.some.injEq, Addr.mk.injEq] at e9; omega
 have hwr : IntKind.i64.wrap ((n : Int) - 1) = (n : Int) - 1 := by rw [IntKind.wrap_i64]; omega
 have X1 : Hid (Bx (w.alloc (.cells (tbL t (.slice (some ⟨g, o, none⟩) n c)).toArray 44)) w.heap.size (tbL t (.slice (some ⟨g, o, none⟩) n c))) := Bx.new w (tbL t (.slice (some ⟨g, o, none⟩) n c)) 44
 have B1 : Hid (Below w.heap.size w (w.alloc (.cells (tbL t (.slice (some ⟨g, o, none⟩) n c)).toArray 44))) := (Below.refl _ _).alloc (Nat.le_refl _) _
 have S1 : Hid ((w.alloc (.cells (tbL t (.slice (some ⟨g, o, none⟩) n c)).toArray 44)).heap.size = w.heap.size + 1) := World.size_alloc _ _
 obtain ⟨FL, hFL⟩ : ∃ FL, Fn.fL t.foot = FL := ⟨_, rfl⟩
 have hF19 : FL.length = 19 := by rw [← hFL]; rfl
 have hA19 : FL.toArray.size = 19 := by simp [hF19]
 have hone : FL.toArray.all (·.oneCell') = true := by rw [← hFL]; simp [Fn.fL, Value.oneCell']
 have hF1 : FL[1]? = some (vi ki t.foot.fr) := by rw [← hFL]; rfl
 go_enter Tryz.func75, Tryz.ntmps75
 generalize hUA : (tbL t (.slice (some ⟨g, o, none⟩) n c)).toArray = UA at *
 go_upto_region 1 with fail
 refine gen_code (fun V => Bx V w.heap.size (tbL t (.slice (some ⟨g, o, none⟩) n c)) ∧ Below w.heap.size w V ∧ V.heap.size = w.heap.size + 1) ⟨X1.out, B1.out, S1.out⟩ ?_
 clear X1 B1 S1
 rintro V ⟨XV, BV, SV⟩
 have HR : Hid (V.rangeAt w.heap.size 6 FL) := by
  show V.rangeAt _ _ _
  rw [← hFL]
  exact XV.rng (.string t.nm :: (trC t.first ++ [.slice (some ⟨g, o, none⟩) n c])) (Fn.fL t.foot) [] rfl
 have X2 : Hid (Bx (V.alloc (.cells [.bool false, vi ki 0, vi ki 0, vi ki 0, vi ki 0, vi ki 0, vi ki 0, vi ki 0, .int .u8 0, vi ki 0, .string ⟨#[]⟩, vi ki 0, vi ki 0, vi ki 0, vi ki 0, vi ki 0, .int .u8 0, vi ki 0, .string ⟨#[]⟩].toArray 42)) (w.heap.size + 1) [.bool false, vi ki 0, vi ki 0, vi ki 0, vi ki 0, vi ki 0, vi ki 0, vi ki 0, .int .u8 0, vi ki 0, .string ⟨#[]⟩, vi ki 0, vi ki 0, vi ki 0, vi ki 0, vi ki 0, .int .u8 0, vi ki 0, .string ⟨#[]⟩]) := Bx.newAt V _ 42 _ SV
 have HTH : Hid ((V.alloc (.cells [.bool false, vi ki 0, vi ki 0, vi ki 0, vi ki 0, vi ki 0, vi ki 0, vi ki 0, .int .u8 0, vi ki 0, .string ⟨#[]⟩, vi ki 0, vi ki 0, vi ki 0, vi ki 0, vi ki 0, .int .u8 0, vi ki 0, .string ⟨#[]⟩].toArray 42)).there (w.heap.size + 1) 0 FL.toArray.size) := by show World.there _ _ _ _; rw [hA19]; exact X2.out.there
 have B2 : Hid (Below w.heap.size w (V.alloc (.cells [.bool false, vi ki 0, vi ki 0, vi ki 0, vi ki 0, vi ki 0, vi ki 0, vi ki 0, .int .u8 0, vi ki 0, .string ⟨#[]⟩, vi ki 0, vi ki 0, vi ki 0, vi ki 0, vi ki 0, .int .u8 0, vi ki 0, .string ⟨#[]⟩].toArray 42))) := BV.alloc BV.size _
 have X3 : Hid (Bx (V.alloc (.cells [.bool false, vi ki 0, vi ki 0, vi ki 0, vi ki 0, vi ki 0, vi ki 0, vi ki 0, .int .u8 0, vi ki 0, .string ⟨#[]⟩, vi ki 0, vi ki 0, vi ki 0, vi ki 0, vi ki 0, .int .u8 0, vi ki 0, .string ⟨#[]⟩].toArray 42)) w.heap.size (tbL t (.slice (some ⟨g, o, none⟩) n c))) := XV.alloc _
 clear XV BV
 go_upto_region 2 with (first | (refine wpList_load_mid rfl 42 _ rfl w.heap.size 6 rfl FL _ HR.out Tryz.underlying42 rfl (by rw [hF19]; kernel_rfl) ?_) | (refine wpList_store_mid rfl 42 _ _ rfl (w.heap.size + 1) 0 FL.toArray rfl rfl HTH.out (by rw [hA19]; kernel_rfl) hone ?_; refine gen_list (fun V => Bx V (w.heap.size + 1) FL ∧ Below w.heap.size w V ∧ Bx V w.heap.size (tbL t (.slice (some ⟨g, o, none⟩) n c))) ⟨X2.out.setAll FL (by rw [hF19]; rfl), below_setCells (Nat.le_succ _) _ _ _ B2.out, X3.out.setOther (by omega) FL 0⟩ ?_; clear X2 B2 X3 HTH HR SV; rintro V2 ⟨XF, BV, XV⟩) | fail)
 have f1 := XF.c 1 hF1
 have HLV : Hid (Cvl.Lens V2) := bel_lens BV HL.out
 have HXF : Hid (Bx V2 (w.heap.size + 1) FL) := XF
 have HXV : Hid (Bx V2 w.heap.size (tbL t (.slice (some ⟨g, o, none⟩) n c))) := XV
 have HBV : Hid (Below w.heap.size w V2) := BV
 clear XF XV BV
 go_wp2_with fail
 refine (YA.out V2 HLV.out).mono ?_
 rintro e w1 ⟨rfl, hw1⟩
 obtain rfl := hw1.symm
 clear hw1
 have v5 := HXV.out.c 5 (v := .slice (some ⟨g, o, none⟩) n c) rfl
 go_upto_region 6 with fail
 have HS6 : Hid ((fun W : World => W.cell? ⟨w.heap.size + 1, 1, none⟩ = some (vi ki t.foot.fr) ∧ W.cell? ⟨w.heap.size, 5, none⟩ = some (.slice (some ⟨g, o, none⟩) n c) ∧ W.cell? ⟨g, o + (n - 1) * 4, none⟩ = some (vi ki x.at_)) V2) := ⟨f1, v5, (HBV.out.cell (p := ⟨g, o + (n - 1) * 4, none⟩) hg).trans (hrg 0 _ rfl)⟩
 refine wp_region_held_drew (S := (fun W : World => W.cell? ⟨w.heap.size + 1, 1, none⟩ = some (vi ki t.foot.fr) ∧ W.cell? ⟨w.heap.size, 5, none⟩ = some (.slice (some ⟨g, o, none⟩) n c) ∧ W.cell? ⟨g, o + (n - 1) * 4, none⟩ = some (vi ki x.at_))) (by kernel_rfl) (by simpa [go_sem] using HS6.out) (fun hHeld => ?_)
 refine tks 0 ⟨some 22, _, _, _, _, none⟩ rfl ?_
 simp only [za, zb, zc, zd]
 refine tks 1 ⟨some 23, _, _, _, _, none⟩ rfl ?_
 simp only [za, zb, zc, zd]
 refine tks 2 ⟨some 24, _, _, _, _, none⟩ rfl ?_
 simp only [za, zb, zc, zd]
 refine tks 3 ⟨some 25, _, _, _, _, some (2, true)⟩ rfl ?_
 simp only [za, zb, zc, zd]
 refine tk (v := ?_) 4 ⟨some 26, _, _, _, _, some (2, true)⟩ rfl ?_ ?_
 case refine_2 => (intro w9 hSw; obtain ⟨s1, s2, s3⟩ := hSw; go_simp; try with_reducible rfl)
 simp only [za, zb, zc, zd]
 refine tks 5 ⟨some 27, _, _, _, _, some (2, true)⟩ rfl ?_
 simp only [za, zb, zc, zd]
 refine tk (v := ?_) 6 ⟨some 28, _, _, _, _, some (2, true)⟩ rfl ?_ ?_
 case refine_2 => (intro w9 hSw; obtain ⟨s1, s2, s3⟩ := hSw; go_simp; try with_reducible rfl)
 simp only [za, zb, zc, zd]
 refine tks 7 ⟨some 29, _, _, _, _, some (2, true)⟩ rfl ?_
 simp only [za, zb, zc, zd]
 refine tks 8 ⟨some 30, _, _, _, _, some (2, true)⟩ rfl ?_
 simp only [za, zb, zc, zd]
 refine wpAnyH_take (i := 9) (v := .pointer (some ⟨g, o + (n - 1) * 4, none⟩)) (oi := ⟨some 31, _, _, _, _, some (2, true)⟩) rfl (by kernel_rfl) (by kernel_rfl) (by kernel_rfl) (fun _ _ _ h => h) (Or.inl ⟨by kernel_rfl, ?_⟩) (by assumption) ?_
 case refine_1 => (rintro w9 -; go_simp; intro h9; exact absurd (h9 (by omega)) (by omega))
 simp only [za, zb, zc, zd]
 refine tks 10 ⟨some 32, _, _, _, _, some (2, true)⟩ rfl ?_
 simp only [za, zb, zc, zd]
 refine tk (v := ?_) 11 ⟨some 33, _, _, _, _, some (2, true)⟩ rfl ?_ ?_
 case refine_2 => (intro w9 hSw; obtain ⟨s1, s2, s3⟩ := hSw; go_simp; try with_reducible rfl)
 simp only [za, zb, zc, zd]
 refine tks 12 ⟨some 34, _, _, _, _, some (2, true)⟩ rfl ?_
 simp only [za, zb, zc, zd]
 refine tks 13 ⟨some 35, _, _, _, _, none⟩ rfl ?_
 simp only [za, zb, zc, zd]
 clear hHeld
 refine wpAnyH_done (by kernel_rfl) ?_ _
 go_upto_region 8 with fail
 refine gen_code (fun V => Bx V (w.heap.size + 1) FL ∧ Below w.heap.size w V) ⟨HXF.out.below ((Below.refl _ _).drew), (HBV.out.trans (((Below.refl _ _).drew).mono HBV.out.size))⟩ ?_
 clear HXF HXV HBV HLV f1 v5
 rintro V3 ⟨XF3, B3⟩
 have f1 := XF3.c 1 hF1
 have HX3 : Hid (Bx V3 (w.heap.size + 1) FL) := XF3
 have HB3 : Hid (Below w.heap.size w V3) := B3
 have FA3 := FA.out V3 (bel_lens B3 HL.out) (HTb.out.below B3)
 rw [hFL] at FA3
 clear XF3 B3 FA
 go_upto_region 9 with (first | (refine wpList_load_mid rfl 42 _ rfl (w.heap.size + 1) 0 rfl FL _ HX3.out.all Tryz.underlying42 rfl (by rw [hF19]; kernel_rfl) ?_) | (refine FA3.mono ?_; clear FA3; rintro e w4 ⟨rfl, hb4⟩) | fail)
 refine gen_code (fun V => V.cell? ⟨w.heap.size + 1, 1, none⟩ = some (vi ki t.foot.fr) ∧ V.cell? ⟨w4.heap.size, 0, none⟩ = some (vi ki p.t) ∧ Below w.heap.size w V) ⟨((HX3.out.below hb4).alloc _).c 1 hF1, (Bx.new w4 [vi ki p.t, vi ki p.o, .bool p.d, .string p.a] 23).c 0 rfl, (HB3.out.trans (hb4.mono HB3.out.size)).alloc (HB3.out.trans (hb4.mono HB3.out.size)).size _⟩ ?_
 clear hb4 HX3 HB3 f1
 rintro V5 ⟨k1, k2, k3⟩
 have HB5 : Hid (Below w.heap.size w V5) := k3
 clear k3
 by_cases her : er = 0
 ·go_wp2
  go_ret
  exact ⟨ret_b9 (by first | (simp [her]; done) | (simp [her]; rfl)), HB5.out⟩
 ·go_wp2
  go_ret
  exact ⟨ret_b9 (by first | (simp [her]; done) | (simp [her]; rfl)), HB5.out⟩
theorem rf_none (t : TbR) (sv : Value) (y : Int) (hy1 : 1800 ≤ y) (hy2 : y ≤ 2110) (YA : Hid (∀ w : World, Cvl.Lens w → Calls Tryz.prog 124 #[vi ki t.foot.fr] w fun e w' => e = zr (vi ki y) ∧ w' = w)) (p : Fn.Tr) (er : Int) (FA : Hid (∀ w : World, Cvl.Lens w → Clk.Tab w → Calls Tryz.prog 125 #[.agg (Fn.fL t.foot).toArray, vi ki t.foot.fr] w fun e w' => e = zr (.tuple #[.agg #[vi ki p.t, vi ki p.o, .bool p.d, .string p.a], vi ki er]) ∧ Below w.heap.size w w')) (hx : t.trs = []) (w : World) (HL : Hid (Cvl.Lens w)) (HTb : Hid (Clk.Tab w)) (HT : Hid (TrAt w sv t.trs)) :
  Calls Tryz.prog 75 #[.agg (tbL t sv).toArray] w fun e w' => e = zr (.bool (decide (er = 0) && decide (p.t = t.foot.fr))) ∧ Below w.heap.size w w' := by
 obtain ⟨⟨ao, c, hsv⟩, hml, _⟩ := HT.out
 obtain ⟨n, hn⟩ : ∃ n, t.trs.length = n := ⟨_, rfl⟩
 rw [hn] at hsv hml
 subst hsv
 unfold maxLen at hml
 have hn0 : n = 0 := by rw [← hn, hx]; rfl
 subst hn0
 have X1 : Hid (Bx (w.alloc (.cells (tbL t (.slice ao 0 c)).toArray 44)) w.heap.size (tbL t (.slice ao 0 c))) := Bx.new w (tbL t (.slice ao 0 c)) 44
 have B1 : Hid (Below w.heap.size w (w.alloc (.cells (tbL t (.slice ao 0 c)).toArray 44))) := (Below.refl _ _).alloc (Nat.le_refl _) _
 have S1 : Hid ((w.alloc (.cells (tbL t (.slice ao 0 c)).toArray 44)).heap.size = w.heap.size + 1) := World.size_alloc _ _
 obtain ⟨FL, hFL⟩ : ∃ FL, Fn.fL t.foot = FL := ⟨_, rfl⟩
 have hF19 : FL.length = 19 := by rw [← hFL]; rfl
 have hA19 : FL.toArray.size = 19 := by simp [hF19]
 have hone : FL.toArray.all (·.oneCell') = true := by rw [← hFL]; simp [Fn.fL, Value.oneCell']
 have hF1 : FL[1]? = some (vi ki t.foot.fr) := by rw [← hFL]; rfl
 go_enter Tryz.func75, Tryz.ntmps75
 generalize hUA : (tbL t (.slice ao 0 c)).toArray = UA at *
 go_upto_region 1 with fail
 refine gen_code (fun V => Bx V w.heap.size (tbL t (.slice ao 0 c)) ∧ Below w.heap.size w V ∧ V.heap.size = w.heap.size + 1) ⟨X1.out, B1.out, S1.out⟩ ?_
 clear X1 B1 S1
 rintro V ⟨XV, BV, SV⟩
 have HR : Hid (V.rangeAt w.heap.size 6 FL) := by
  show V.rangeAt _ _ _
  rw [← hFL]
  exact XV.rng (.string t.nm :: (trC t.first ++ [.slice ao 0 c])) (Fn.fL t.foot) [] rfl
 have X2 : Hid (Bx (V.alloc (.cells [.bool false, vi ki 0, vi ki 0, vi ki 0, vi ki 0, vi ki 0, vi ki 0, vi ki 0, .int .u8 0, vi ki 0, .string ⟨#[]⟩, vi ki 0, vi ki 0, vi ki 0, vi ki 0, vi ki 0, .int .u8 0, vi ki 0, .string ⟨#[]⟩].toArray 42)) (w.heap.size + 1) [.bool false, vi ki 0, vi ki 0, vi ki 0, vi ki 0, vi ki 0, vi ki 0, vi ki 0, .int .u8 0, vi ki 0, .string ⟨#[]⟩, vi ki 0, vi ki 0, vi ki 0, vi ki 0, vi ki 0, .int .u8 0, vi ki 0, .string ⟨#[]⟩]) := Bx.newAt V _ 42 _ SV
 have HTH : Hid ((V.alloc (.cells [.bool false, vi ki 0, vi ki 0, vi ki 0, vi ki 0, vi ki 0, vi ki 0, vi ki 0, .int .u8 0, vi ki 0, .string ⟨#[]⟩, vi ki 0, vi ki 0, vi ki 0, vi ki 0, vi ki 0, .int .u8 0, vi ki 0, .string ⟨#[]⟩].toArray 42)).there (w.heap.size + 1) 0 FL.toArray.size) := by show World.there _ _ _ _; rw [hA19]; exact X2.out.there
 have B2 : Hid (Below w.heap.size w (V.alloc (.cells [.bool false, vi ki 0, vi ki 0, vi ki 0, vi ki 0, vi ki 0, vi ki 0, vi ki 0, .int .u8 0, vi ki 0, .string ⟨#[]⟩, vi ki 0, vi ki 0, vi ki 0, vi ki 0, vi ki 0, .int .u8 0, vi ki 0, .string ⟨#[]⟩].toArray 42))) := BV.alloc BV.size _
 have X3 : Hid (Bx (V.alloc (.cells [.bool false, vi ki 0, vi ki 0, vi ki 0, vi ki 0, vi ki 0, vi ki 0, vi ki 0, .int .u8 0, vi ki 0, .string ⟨#[]⟩, vi ki 0, vi ki 0, vi ki 0, vi ki 0, vi ki 0, .int .u8 0, vi ki 0, .string ⟨#[]⟩].toArray 42)) w.heap.size (tbL t (.slice ao 0 c))) := XV.alloc _
 clear XV BV
 go_upto_region 2 with (first | (refine wpList_load_mid rfl 42 _ rfl w.heap.size 6 rfl FL _ HR.out Tryz.underlying42 rfl (by rw [hF19]; kernel_rfl) ?_) | (refine wpList_store_mid rfl 42 _ _ rfl (w.heap.size + 1) 0 FL.toArray rfl rfl HTH.out (by rw [hA19]; kernel_rfl) hone ?_; refine gen_list (fun V => Bx V (w.heap.size + 1) FL ∧ Below w.heap.size w V ∧ Bx V w.heap.size (tbL t (.slice ao 0 c))) ⟨X2.out.setAll FL (by rw [hF19]; rfl), below_setCells (Nat.le_succ _) _ _ _ B2.out, X3.out.setOther (by omega) FL 0⟩ ?_; clear X2 B2 X3 HTH HR SV; rintro V2 ⟨XF, BV, XV⟩) | fail)
 have f1 := XF.c 1 hF1
 have HLV : Hid (Cvl.Lens V2) := bel_lens BV HL.out
 have HXF : Hid (Bx V2 (w.heap.size + 1) FL) := XF
 have HXV : Hid (Bx V2 w.heap.size (tbL t (.slice ao 0 c))) := XV
 have HBV : Hid (Below w.heap.size w V2) := BV
 clear XF XV BV
 go_wp2_with fail
 refine (YA.out V2 HLV.out).mono ?_
 rintro e w1 ⟨rfl, hw1⟩
 obtain rfl := hw1.symm
 clear hw1
 have v5 := HXV.out.c 5 (v := .slice ao 0 c) rfl
 go_upto_region 6 with fail
 refine wp_region_held_drew (S := (fun W : World => True)) (by kernel_rfl) trivial (fun hHeld => ?_)
 refine tks 0 ⟨some 22, _, _, _, _, none⟩ rfl ?_
 simp only [za, zb, zc, zd]
 refine tks 1 ⟨some 23, _, _, _, _, none⟩ rfl ?_
 simp only [za, zb, zc, zd]
 refine tks 2 ⟨some 24, _, _, _, _, none⟩ rfl ?_
 simp only [za, zb, zc, zd]
 refine tku 3 ⟨some 25, _, _, _, _, some (2, true)⟩ rfl ?_
 simp only [za, zb, zc, zd]
 refine tku 4 ⟨some 26, _, _, _, _, some (2, true)⟩ rfl ?_
 simp only [za, zb, zc, zd]
 refine tku 5 ⟨some 27, _, _, _, _, some (2, true)⟩ rfl ?_
 simp only [za, zb, zc, zd]
 refine tku 6 ⟨some 28, _, _, _, _, some (2, true)⟩ rfl ?_
 simp only [za, zb, zc, zd]
 refine tku 7 ⟨some 29, _, _, _, _, some (2, true)⟩ rfl ?_
 simp only [za, zb, zc, zd]
 refine tku 8 ⟨some 30, _, _, _, _, some (2, true)⟩ rfl ?_
 simp only [za, zb, zc, zd]
 refine tku 9 ⟨some 31, _, _, _, _, some (2, true)⟩ rfl ?_
 simp only [za, zb, zc, zd]
 refine tku 10 ⟨some 32, _, _, _, _, some (2, true)⟩ rfl ?_
 simp only [za, zb, zc, zd]
 refine tku 11 ⟨some 33, _, _, _, _, some (2, true)⟩ rfl ?_
 simp only [za, zb, zc, zd]
 refine tku 12 ⟨some 34, _, _, _, _, some (2, true)⟩ rfl ?_
 simp only [za, zb, zc, zd]
 refine tks 13 ⟨some 35, _, _, _, _, none⟩ rfl ?_
 simp only [za, zb, zc, zd]
 clear hHeld
 refine wpAnyH_done (by kernel_rfl) ?_ _
 go_upto_region 8 with fail
 refine gen_code (fun V => Bx V (w.heap.size + 1) FL ∧ Below w.heap.size w V) ⟨HXF.out.below ((Below.refl _ _).drew), (HBV.out.trans (((Below.refl _ _).drew).mono HBV.out.size))⟩ ?_
 clear HXF HXV HBV HLV f1 v5
 rintro V3 ⟨XF3, B3⟩
 have f1 := XF3.c 1 hF1
 have HX3 : Hid (Bx V3 (w.heap.size + 1) FL) := XF3
 have HB3 : Hid (Below w.heap.size w V3) := B3
 have FA3 := FA.out V3 (bel_lens B3 HL.out) (HTb.out.below B3)
 rw [hFL] at FA3
 clear XF3 B3 FA
 go_upto_region 9 with (first | (refine wpList_load_mid rfl 42 _ rfl (w.heap.size + 1) 0 rfl FL _ HX3.out.all Tryz.underlying42 rfl (by rw [hF19]; kernel_rfl) ?_) | (refine FA3.mono ?_; clear FA3; rintro e w4 ⟨rfl, hb4⟩) | fail)
 refine gen_code (fun V => V.cell? ⟨w.heap.size + 1, 1, none⟩ = some (vi ki t.foot.fr) ∧ V.cell? ⟨w4.heap.size, 0, none⟩ = some (vi ki p.t) ∧ Below w.heap.size w V) ⟨((HX3.out.below hb4).alloc _).c 1 hF1, (Bx.new w4 [vi ki p.t, vi ki p.o, .bool p.d, .string p.a] 23).c 0 rfl, (HB3.out.trans (hb4.mono HB3.out.size)).alloc (HB3.out.trans (hb4.mono HB3.out.size)).size _⟩ ?_
 clear hb4 HX3 HB3 f1
 rintro V5 ⟨k1, k2, k3⟩
 have HB5 : Hid (Below w.heap.size w V5) := k3
 clear k3
 by_cases her : er = 0
 ·go_wp2
  go_ret
  exact ⟨ret_b9 (by first | (simp [her]; done) | (simp [her]; rfl)), HB5.out⟩
 ·go_wp2
  go_ret
  exact ⟨ret_b9 (by first | (simp [her]; done) | (simp [her]; rfl)), HB5.out⟩
end Go.Proofs.YtklehbmghjcmaaaGreatDoor
namespace Go.Proofs.YtklehbmghjcmaaaGreatDoor
open Go.RowKit Sr
def lastB (L : List TrR) (fr : Int) : Bool := match L[L.length - 1]? with
 | none => true
 | some x => decide (x.at_ < fr)
def RfIs (t : TbR) (b : Bool) : Prop := ∃ y p er, Fn.YAt t.foot.fr y ∧ FAt t.foot t.foot.fr p er ∧ b = (decide (1800 ≤ y) && decide (y ≤ 2110) && lastB t.trs t.foot.fr && (decide (er = 0) && decide (p.t = t.foot.fr)))
theorem rf_any (t : TbR) (sv : Value) (h1 : -9223372036854775808 ≤ t.foot.fr) (h2 : t.foot.fr ≤ 9223372036854775807) :
  ∃ b, RfIs t b ∧ ∀ w : World, Cvl.Lens w → Clk.Tab w → TrAt w sv t.trs → Calls Tryz.prog 75 #[.agg (tbL t sv).toArray] w fun e w' => e = zr (.bool b) ∧ Below w.heap.size w w' := by
 obtain ⟨y, hy⟩ := Fn.yat_is t.foot.fr
 obtain ⟨p, er, hp, FA⟩ := fat_any t.foot t.foot.fr h1 h2
 refine ⟨_, ⟨y, p, er, hy, hp, rfl⟩, fun w hL hT hA => ?_⟩
 have YA : Hid (∀ w : World, Cvl.Lens w → Calls Tryz.prog 124 #[vi ki t.foot.fr] w fun e w' => e = zr (vi ki y) ∧ w' = w) := fun w hw => Fn.yat_any t.foot.fr y hy h1 h2 w hw
 by_cases hr : y < 1800 ∨ 2110 < y
 ·rw [show (decide (1800 ≤ y) && decide (y ≤ 2110)) = false by simp; omega, Bool.false_and, Bool.false_and]
  exact rf_year t sv y hr YA w hL
 ·have y1 : 1800 ≤ y := by omega
  have y2 : y ≤ 2110 := by omega
  rw [show (decide (1800 ≤ y) && decide (y ≤ 2110)) = true by simp [y1, y2], Bool.true_and]
  cases hx : t.trs[t.trs.length - 1]? with
  | none =>
   have h0 : t.trs = [] := by
    have := List.getElem?_eq_none_iff.1 hx
    exact List.eq_nil_of_length_eq_zero (by omega)
   rw [show lastB t.trs t.foot.fr = true by unfold lastB; rw [hx], Bool.true_and]
   exact rf_none t sv y y1 y2 YA p er FA h0 w hL hT hA
  | some x =>
   by_cases hle : t.foot.fr ≤ x.at_
   ·rw [show lastB t.trs t.foot.fr = false by unfold lastB; rw [hx]; simp; omega, Bool.false_and]
    exact rf_last t sv y y1 y2 YA x hx hle w hL hA
   ·rw [show lastB t.trs t.foot.fr = true by unfold lastB; rw [hx]; simp; omega, Bool.true_and]
    exact rf_some t sv y y1 y2 YA p er FA x hx hle w hL hT hA
def zerF : List Value := [.bool false, vi ki 0, vi ki 0, vi ki 0, vi ki 0, vi ki 0, vi ki 0, vi ki 0, .int .u8 0, vi ki 0, .string ⟨#[]⟩, vi ki 0, vi ki 0, vi ki 0, vi ki 0, vi ki 0, .int .u8 0, vi ki 0, .string ⟨#[]⟩]
def halfZ (a : Fn.Hf) : Bool := a.m == 0 && a.k == 0 && a.d == 0 && a.n == 0 && a.s == 0 && a.z == 0 && a.v == 0 && (a.t.toList == [])
def footZ (f : Fn.Ft) : Bool := !f.h && f.fr == 0 && f.off == 0 && halfZ f.A && halfZ f.B
theorem ite_ok {c : Prop} [Decidable c] (r : Bool) (w : World) : (if c then Result.ok r w else Result.ok false w) = Result.ok (decide c && r) w := by split <;> simp [*]
theorem ite_ok' {c : Prop} [Decidable c] (r : Bool) (w : World) : (if c then Result.ok false w else Result.ok r w) = Result.ok (decide (¬ c) && r) w := by split <;> simp [*]
theorem foot_eq (f : Fn.Ft) (w : World) : (Op.equalIn 10000 42 (.agg (Fn.fL f).toArray) (.agg zerF.toArray)).run Tryz.prog w = .ok (footZ f) w := by
 rw [run_equalIn_struct w 9999 42 _ _ (by kernel_rfl) (by kernel_rfl)]
 unfold Fn.fL zerF
 go_simp
 simp only [ite_ok, ite_ok']
 congr 1
 rw [Bool.eq_iff_iff]
 simp only [footZ, halfZ, Bool.and_eq_true, decide_eq_true_eq, beq_iff_eq, Bool.not_eq_true', Bool.not_eq_true, and_assoc, and_true]
end Go.Proofs.YtklehbmghjcmaaaGreatDoor
namespace Go.Proofs.YtklehbmghjcmaaaGreatDoor
open Go.RowKit Sr
open _root_.Go.Proofs.YtklehbmghjcmaaaGreatDoor.Fn (bel_lens)
theorem right_run (t : TbR) (sv : Value) (b r : Bool) (h1 : t.first.at_ = 0) (h2 : offB t.first.off = true) (h3 : t.trs.length ≤ 4096) (hno : (∃ j, j < t.trs.length ∧ ¬ OkTr t.trs j) → b = false)
  (hyes : (∀ j, j < t.trs.length → OkTr t.trs j) → b = (footZ t.foot || r)) (w : World) (HL : Hid (Cvl.Lens w)) (HTb : Hid (Clk.Tab w)) (HT : Hid (TrAt w sv t.trs))
  (RF : Hid (∀ w : World, Cvl.Lens w → Clk.Tab w → TrAt w sv t.trs → Calls Tryz.prog 75 #[.agg (tbL t sv).toArray] w fun e w' => e = zr (.bool r) ∧ Below w.heap.size w w')) :
  Calls Tryz.prog 31 #[.agg (tbL t sv).toArray] w fun e w' => e = zr (.bool b) ∧ Below w.heap.size w w' :=
 right_gen t.nm t.first sv (Fn.fL t.foot) rfl t.trs (footZ t.foot) b r h1 h2 h3 hno hyes (fun W => foot_eq t.foot W) w HT (fun _ W hb => RF.out W (bel_lens hb HL.out) (HTb.out.below hb) (HT.out.mv hb))
end Go.Proofs.YtklehbmghjcmaaaGreatDoor
namespace Go.Proofs.YtklehbmghjcmaaaGreatDoor
open Go.RowKit Sr
theorem right_no1 (t : TbR) (sv : Value) (h1 : ¬ t.first.at_ = 0) (w : World) (HT : Hid (TrAt w sv t.trs)) :
  Calls Tryz.prog 31 #[.agg (tbL t sv).toArray] w fun e w' => e = zr (.bool false) ∧ Below w.heap.size w w' := by
 have X1 : Hid (Bx (w.alloc (.cells (tbL t sv).toArray 44)) w.heap.size (tbL t sv)) := Bx.new w (tbL t sv) 44
 have B1 : Hid (Below w.heap.size w (w.alloc (.cells (tbL t sv).toArray 44))) := (Below.refl _ _).alloc (Nat.le_refl _) _
 obtain ⟨⟨ao, c, hsv⟩, hml, _⟩ := HT.out
 obtain ⟨n, hn⟩ : ∃ n, t.trs.length = n := ⟨_, rfl⟩
 rw [hn] at hsv hml
 try rw [hn] at h3
 subst hsv
 unfold maxLen at hml
 go_enter Tryz.func31, Tryz.ntmps31
 generalize hUA : (tbL t (.slice ao n c)).toArray = UA at *
 go_upto_region 1 with fail
 refine gen_code (fun V => Bx V w.heap.size (tbL t (.slice ao n c)) ∧ Below w.heap.size w V) ⟨X1.out, B1.out⟩ ?_
 clear X1 B1
 rintro V ⟨XV, BV⟩
 have c1 := XV.c 1 (v := vi ki t.first.at_) rfl
 have c2 := XV.c 2 (v := vi ki t.first.off) rfl
 have c5 := XV.c 5 (v := .slice ao n c) rfl
 have HB : Hid (Below w.heap.size w V) := BV
 clear XV BV
 go_wp2_with fail
 go_ret
 exact ⟨rfl, HB.out⟩
theorem right_no2 (t : TbR) (sv : Value) (h1 : t.first.at_ = 0) (h2 : offB t.first.off = false) (w : World) (HT : Hid (TrAt w sv t.trs)) :
  Calls Tryz.prog 31 #[.agg (tbL t sv).toArray] w fun e w' => e = zr (.bool false) ∧ Below w.heap.size w w' := by
 have X1 : Hid (Bx (w.alloc (.cells (tbL t sv).toArray 44)) w.heap.size (tbL t sv)) := Bx.new w (tbL t sv) 44
 have B1 : Hid (Below w.heap.size w (w.alloc (.cells (tbL t sv).toArray 44))) := (Below.refl _ _).alloc (Nat.le_refl _) _
 obtain ⟨⟨ao, c, hsv⟩, hml, _⟩ := HT.out
 obtain ⟨n, hn⟩ : ∃ n, t.trs.length = n := ⟨_, rfl⟩
 rw [hn] at hsv hml
 try rw [hn] at h3
 subst hsv
 unfold maxLen at hml
 go_enter Tryz.func31, Tryz.ntmps31
 generalize hUA : (tbL t (.slice ao n c)).toArray = UA at *
 go_upto_region 1 with fail
 refine gen_code (fun V => Bx V w.heap.size (tbL t (.slice ao n c)) ∧ Below w.heap.size w V) ⟨X1.out, B1.out⟩ ?_
 clear X1 B1
 rintro V ⟨XV, BV⟩
 have c1 := XV.c 1 (v := vi ki t.first.at_) rfl
 have c2 := XV.c 2 (v := vi ki t.first.off) rfl
 have c5 := XV.c 5 (v := .slice ao n c) rfl
 have HB : Hid (Below w.heap.size w V) := BV
 clear XV BV
 go_wp2_with fail
 refine (isOff_any _ _).mono ?_
 rintro e v1 ⟨rfl, hv1⟩
 obtain rfl := hv1.symm
 clear hv1
 rw [h2]
 go_wp2_with fail
 go_ret
 exact ⟨rfl, HB.out⟩
theorem right_no3 (t : TbR) (sv : Value) (h1 : t.first.at_ = 0) (h2 : offB t.first.off = true) (h3 : 4096 < t.trs.length) (w : World) (HT : Hid (TrAt w sv t.trs)) :
  Calls Tryz.prog 31 #[.agg (tbL t sv).toArray] w fun e w' => e = zr (.bool false) ∧ Below w.heap.size w w' := by
 have X1 : Hid (Bx (w.alloc (.cells (tbL t sv).toArray 44)) w.heap.size (tbL t sv)) := Bx.new w (tbL t sv) 44
 have B1 : Hid (Below w.heap.size w (w.alloc (.cells (tbL t sv).toArray 44))) := (Below.refl _ _).alloc (Nat.le_refl _) _
 obtain ⟨⟨ao, c, hsv⟩, hml, _⟩ := HT.out
 obtain ⟨n, hn⟩ : ∃ n, t.trs.length = n := ⟨_, rfl⟩
 rw [hn] at hsv hml
 try rw [hn] at h3
 subst hsv
 unfold maxLen at hml
 go_enter Tryz.func31, Tryz.ntmps31
 generalize hUA : (tbL t (.slice ao n c)).toArray = UA at *
 go_upto_region 1 with fail
 refine gen_code (fun V => Bx V w.heap.size (tbL t (.slice ao n c)) ∧ Below w.heap.size w V) ⟨X1.out, B1.out⟩ ?_
 clear X1 B1
 rintro V ⟨XV, BV⟩
 have c1 := XV.c 1 (v := vi ki t.first.at_) rfl
 have c2 := XV.c 2 (v := vi ki t.first.off) rfl
 have c5 := XV.c 5 (v := .slice ao n c) rfl
 have HB : Hid (Below w.heap.size w V) := BV
 clear XV BV
 go_wp2_with fail
 refine (isOff_any _ _).mono ?_
 rintro e v1 ⟨rfl, hv1⟩
 obtain rfl := hv1.symm
 clear hv1
 rw [h2]
 go_wp2_with fail
 go_ret
 exact ⟨rfl, HB.out⟩
def RightIs (t : TbR) (b : Bool) : Prop := ∃ r, RfIs t r ∧ (b = true ↔ t.first.at_ = 0 ∧ offB t.first.off = true ∧ t.trs.length ≤ 4096 ∧ (∀ j, j < t.trs.length → OkTr t.trs j) ∧ (footZ t.foot = true ∨ r = true))
theorem right_any (t : TbR) (sv : Value) (f1 : -9223372036854775808 ≤ t.foot.fr) (f2 : t.foot.fr ≤ 9223372036854775807) :
  ∃ b, RightIs t b ∧ ∀ w : World, Cvl.Lens w → Clk.Tab w → TrAt w sv t.trs → Calls Tryz.prog 31 #[.agg (tbL t sv).toArray] w fun e w' => e = zr (.bool b) ∧ Below w.heap.size w w' := by
 obtain ⟨r, hr, RF⟩ := rf_any t sv f1 f2
 by_cases h1 : t.first.at_ = 0
 ·cases h2 : offB t.first.off
  ·exact ⟨false, ⟨r, hr, by simp [h2]⟩, fun w _ _ hA => right_no2 t sv h1 h2 w hA⟩
  ·by_cases h3 : t.trs.length ≤ 4096
   ·by_cases h4 : ∀ j, j < t.trs.length → OkTr t.trs j
    ·refine ⟨footZ t.foot || r, ⟨r, hr, ?_⟩, fun w hL hT hA => right_run t sv _ r h1 h2 h3 (fun ⟨j, a, k⟩ => absurd (h4 j a) k) (fun _ => rfl) w hL hT hA RF⟩
     rw [Bool.or_eq_true]
     exact ⟨fun h => ⟨h1, h2, h3, h4, h⟩, fun h => h.2.2.2.2⟩
    ·refine ⟨false, ⟨r, hr, ?_⟩, fun w hL hT hA => right_run t sv _ r h1 h2 h3 (fun _ => rfl) (fun h => absurd h h4) w hL hT hA RF⟩
     exact ⟨fun h => (nomatch h), fun h => absurd h.2.2.2.1 h4⟩
   ·refine ⟨false, ⟨r, hr, ?_⟩, fun w _ _ hA => right_no3 t sv h1 h2 (by omega) w hA⟩
    exact ⟨fun h => (nomatch h), fun h => absurd h.2.2.1 h3⟩
 ·refine ⟨false, ⟨r, hr, ?_⟩, fun w _ _ hA => right_no1 t sv h1 w hA⟩
  exact ⟨fun h => (nomatch h), fun h => absurd h.1 h1⟩
theorem rfoot_eq (f : Fn.Ft) (w : World) : (Op.equalIn 10000 32 (.agg (Fn.fL f).toArray) (.agg zeF.toArray)).run Tryz.prog w = .ok (footZ f) w := by
 rw [run_equalIn_struct w 9999 32 _ _ (by kernel_rfl) (by kernel_rfl)]
 unfold Fn.fL zeF
 go_simp
 simp only [ite_ok, ite_ok']
 congr 1
 rw [Bool.eq_iff_iff]
 simp only [footZ, halfZ, Bool.and_eq_true, decide_eq_true_eq, beq_iff_eq, Bool.not_eq_true', Bool.not_eq_true, and_assoc, and_true]
theorem rright_none (nm : ByteArray) (f : TrR) (sv : Value) (FL : List Value) (hF : FL.length = 19) (L : List TrR) (h0 : f.at_ = 0) (h1 : offR f.off = true) (h4 : L.length ≤ 4096) (hok : ∀ j, j < L.length → OkR L j) (z : Bool) (f0 : FL[0]? = some (.bool false)) (EQ : Hid (∀ W : World, (Op.equalIn 10000 32 (.agg FL.toArray) (.agg zeF.toArray)).run Tryz.prog W = .ok z W)) (w : World) (HT : Hid (TrAt w sv L)) :
  Calls Tryz.prog 21 #[.agg (tbF nm f sv FL).toArray] w fun r w' => r = zr (.bool z) ∧ Below w.heap.size w w' := by
 have X1 : Hid (Bx (w.alloc (.cells (tbF nm f sv FL).toArray 34)) w.heap.size (tbF nm f sv FL)) := Bx.new w _ _
 have B1 : Hid (Below w.heap.size w (w.alloc (.cells (tbF nm f sv FL).toArray 34))) := (Below.refl _ _).alloc (Nat.le_refl _) _
 have OF : Hid (∀ W : World, Calls Tryz.prog 53 #[.agg #[vi ki 0, vi ki f.off, .bool f.dst, .string f.ab]] W fun r w' => r = zr (.bool true) ∧ Below W.heap.size W w') := fun W => roff_run ⟨0, f.off, f.dst, f.ab⟩ true h1.symm W
 have HALL : Hid (∀ j, j < L.length → OkR L j) := hok
 obtain ⟨⟨ao, c, hsv⟩, hml, _⟩ := HT.out
 obtain ⟨n, hn⟩ : ∃ n, L.length = n := ⟨_, rfl⟩
 rw [hn] at hsv h4
 clear hml h1 hok
 go_enter Tryz.func21, Tryz.ntmps21
 generalize hUA : (tbF nm f sv FL).toArray = UA at *
 go_upto_region 1 with fail
 refine gen_code (fun V => Bx V w.heap.size (tbF nm f sv FL) ∧ Below w.heap.size w V) ⟨X1.out, B1.out⟩ ?_
 clear X1 B1
 rintro V ⟨XV, BV⟩
 have r1 : V.cell? ⟨w.heap.size, 1, none⟩ = some (vi ki 0) := by have := XV.c 1 (v := vi ki f.at_) rfl; rw [h0] at this; exact this
 have r2 : V.cell? ⟨w.heap.size, 2, none⟩ = some (vi ki f.off) := XV.c 2 rfl
 have r3 : V.cell? ⟨w.heap.size, 3, none⟩ = some (.bool f.dst) := XV.c 3 rfl
 have r4 : V.cell? ⟨w.heap.size, 4, none⟩ = some (.string f.ab) := XV.c 4 rfl
 have HX : Hid (Bx V w.heap.size (tbF nm f sv FL)) := XV
 have HB : Hid (Below w.heap.size w V) := BV
 clear XV BV
 go_wp2_with fail
 refine (OF.out _).mono ?_
 rintro e v1 ⟨rfl, hb⟩
 have HX1 : Hid (Bx v1 w.heap.size (tbF nm f sv FL)) := HX.out.below hb
 have HB1 : Hid (Below w.heap.size w v1) := HB.out.trans (hb.mono HB.out.size)
 clear hb HX HB r1 r2 r3 r4 OF
 have q1 : v1.cell? ⟨w.heap.size, 1, none⟩ = some (vi ki 0) := by have := HX1.out.c 1 (v := vi ki f.at_) rfl; rw [h0] at this; exact this
 have q5 : v1.cell? ⟨w.heap.size, 5, none⟩ = some (.slice ao n c) := by have := HX1.out.c 5 (v := sv) rfl; rw [hsv] at this; exact this
 go_wp2_with fail
 go_loopw [3, 4] (fun lv iv wr => ∃ i : Nat, i ≤ n ∧ iv = vi ki (i : Int) ∧ lv = vi ki (lastA L i) ∧ Hid (∀ j, j < i → OkR L j) ∧ Hid (Bx wr w.heap.size (tbF nm f sv FL)) ∧ Hid (Below w.heap.size w wr)) (fun _ iv _ => n - (intOf iv).toNat)
 case atStart => exact ⟨0, Nat.zero_le _, rfl, rfl, fun j hj => absurd hj (Nat.not_lt_zero _), HX1, HB1⟩
 case round =>
  clear HX1 HB1 q1 q5
  obtain ⟨i, hi, rfl, rfl, HOK, HX, HB⟩ := hrel
  have q5 : wr.cell? ⟨w.heap.size, 5, none⟩ = some (.slice ao n c) := by have := HX.out.c 5 (v := sv) rfl; rw [hsv] at this; exact this
  by_cases hin : i < n
  ·obtain ⟨x, hx, ho, h5', h6⟩ := HALL.out i (by omega)
   obtain ⟨g, o, c', hsv', hrg⟩ := (HT.out.mv HB.out).row hx
   rw [hn, hsv] at hsv'
   simp only [Value.slice.injEq, true_and] at hsv'
   obtain ⟨rfl, rfl⟩ := hsv'
   have HRG : Hid (wr.rangeAt g (o + i * 4) (trC x)) := hrg
   have HXn : Hid (Bx (wr.alloc (.cells #[vi ki x.at_, vi ki x.off, .bool x.dst, .string x.ab] 23)) w.heap.size (tbF nm f sv FL)) := HX.out.alloc _
   have HZn : Hid (Bx (wr.alloc (.cells #[vi ki x.at_, vi ki x.off, .bool x.dst, .string x.ab] 23)) wr.heap.size [vi ki x.at_, vi ki x.off, .bool x.dst, .string x.ab]) := Bx.new wr [vi ki x.at_, vi ki x.off, .bool x.dst, .string x.ab] _
   have HBn : Hid (Below w.heap.size w (wr.alloc (.cells #[vi ki x.at_, vi ki x.off, .bool x.dst, .string x.ab] 23))) := HB.out.alloc HB.out.size _
   have HLS : Hid (lastA L (i + 1) = x.at_) := lastA_succ hx
   have HOI : Hid (OkR L i) := ⟨x, hx, ho, h5', h6⟩
   obtain ⟨la, hla⟩ : ∃ la, la = lastA L i := ⟨_, rfl⟩
   rw [← hla] at h5' ⊢
   clear hrg hx HX HB hla
   go_upto_region 8 with (first | (refine wpList_load_mid rfl 23 _ rfl g (o + i * 4) rfl [vi ki x.at_, vi ki x.off, .bool x.dst, .string x.ab] _ HRG.out Tryz.underlying23 rfl (by kernel_rfl) ?_) | fail)
   refine gen_code (fun V => Bx V w.heap.size (tbF nm f sv FL) ∧ Bx V wr.heap.size [vi ki x.at_, vi ki x.off, .bool x.dst, .string x.ab] ∧ Below w.heap.size w V) ⟨HXn.out, HZn.out, HBn.out⟩ ?_
   clear HXn HZn HBn HRG q5
   rintro V9 ⟨XV, ZV, BV⟩
   have OX : Hid (∀ W : World, Calls Tryz.prog 53 #[.agg #[vi ki x.at_, vi ki x.off, .bool x.dst, .string x.ab]] W fun r w' => r = zr (.bool true) ∧ Below W.heap.size W w') := fun W => roff_run x true ho.symm W
   have z0 : V9.cell? ⟨wr.heap.size, 0, none⟩ = some (vi ki x.at_) := ZV.c 0 rfl
   have z1 : V9.cell? ⟨wr.heap.size, 1, none⟩ = some (vi ki x.off) := ZV.c 1 rfl
   have z2 : V9.cell? ⟨wr.heap.size, 2, none⟩ = some (.bool x.dst) := ZV.c 2 rfl
   have z3 : V9.cell? ⟨wr.heap.size, 3, none⟩ = some (.string x.ab) := ZV.c 3 rfl
   have HX9 : Hid (Bx V9 w.heap.size (tbF nm f sv FL)) := XV
   have HZ9 : Hid (Bx V9 wr.heap.size [vi ki x.at_, vi ki x.off, .bool x.dst, .string x.ab]) := ZV
   have HB9 : Hid (Below w.heap.size w V9) := BV
   clear XV ZV BV
   go_wp2_with fail
   refine (OX.out _).mono ?_
   rintro e v2 ⟨rfl, hb⟩
   have HX2 : Hid (Bx v2 w.heap.size (tbF nm f sv FL)) := HX9.out.below hb
   have y0 : v2.cell? ⟨wr.heap.size, 0, none⟩ = some (vi ki x.at_) := (HZ9.out.below hb).c 0 rfl
   have HB2 : Hid (Below w.heap.size w v2) := HB9.out.trans (hb.mono HB9.out.size)
   clear hb HX9 HZ9 HB9 z0 z1 z2 z3 OX
   have h5 : ¬ x.at_ ≤ la := by omega
   have h7 : ¬ 1125899906842624 < x.at_ := by omega
   have HOK' : Hid (∀ j, j < i + 1 → OkR L j) := fun j hj => by
    by_cases e : j = i
    ·rw [e]; exact HOI.out
    ·exact HOK.out j (by omega)
   clear HOI HOK ho h5' h6
   go_wp2_with fail
   exact ⟨⟨i + 1, by omega, by simp, by rw [HLS.out], HOK', HX2, HB2⟩, by simp [intOf]; omega⟩
  ·have q6 : wr.cell? ⟨w.heap.size, 6, none⟩ = some (.bool false) := HX.out.c 6 ((tbF_foot 0).trans f0)
   have Y0 : Hid (Bx (wr.alloc (.cells zeF.toArray 32)) w.heap.size (tbF nm f sv FL)) := HX.out.alloc _
   have Y1 : Hid (Bx (wr.alloc (.cells zeF.toArray 32)) wr.heap.size zeF) := Bx.new wr zeF _
   have YB : Hid (Below w.heap.size w (wr.alloc (.cells zeF.toArray 32))) := HB.out.alloc HB.out.size _
   clear HOK HALL
   go_upto_region 13 with fail
   refine gen_code (fun V => Bx V w.heap.size (tbF nm f sv FL) ∧ Bx V wr.heap.size zeF ∧ Below w.heap.size w V) ⟨Y0.out, Y1.out, YB.out⟩ ?_
   clear Y0 Y1 YB HX HB q5 q6
   rintro V5 ⟨XV, ZV, BV⟩
   have HR : Hid (V5.rangeAt w.heap.size 6 FL) := fun j v hv => (XV.2 (6 + j) v ((tbF_foot j).trans hv)).1
   obtain ⟨ZF, hZF⟩ : ∃ ZF, zeF = ZF := ⟨_, rfl⟩
   have hz19 : ZF.length = 19 := by rw [← hZF]; rfl
   rw [hZF] at ZV EQ
   have HZ : Hid (V5.rangeAt wr.heap.size 0 ZF) := ZV.all
   have HB5 : Hid (Below w.heap.size w V5) := BV
   have hEQ := EQ.out
   clear XV ZV BV hZF EQ
   go_wp2_with (first | (refine wpList_load_mid rfl 32 _ rfl w.heap.size 6 rfl FL _ HR.out Tryz.underlying32 rfl (by rw [hF]; kernel_rfl) ?_) | (refine wpList_load_mid rfl 32 _ rfl wr.heap.size 0 rfl ZF _ HZ.out Tryz.underlying32 rfl (by rw [hz19]; kernel_rfl) ?_) | fail)
   go_ret
   exact ⟨rfl, HB5.out⟩
end Go.Proofs.YtklehbmghjcmaaaGreatDoor
