/- The reference's right, Right. -/
import Derived.Test.YthbcicjkmgoliaaDoorFtN
namespace Go.Proofs.YthbcicjkmgoliaaDoor
open Go.RowKit
set_option linter.unusedVariables false

set_option maxRecDepth 100000 in
set_option maxHeartbeats 8000000 in
theorem rhalf_run (a : Hf) (bO bA : Bool)
    (RO : Hid (∀ w : World, Calls Tryd.prog 40 #[.agg #[.int .i64 a.k, .int .i64 a.d, .int .i64 a.n]] w fun e w' => e = .returned (.bool bO) ∧ Below w.heap.size w w'))
    (RA : Hid (∀ w : World, Calls Tryd.prog 41 #[.agg #[.int .i64 a.s, .int .u8 a.z]] w fun e w' => e = .returned (.bool bA) ∧ Below w.heap.size w w'))
    (w : World) :
    Calls Tryd.prog 32 #[.agg #[.int .i64 a.m, .int .i64 a.k, .int .i64 a.d, .int .i64 a.n, .int .i64 a.s, .int .u8 a.z, .int .i64 a.v, .string a.t]] w fun e w' => e = .returned (.bool (decide (1 ≤ a.m) && decide (a.m ≤ 12) && bO && bA && decide (0 ≤ a.v) && decide (a.v ≤ 7200))) ∧ Below w.heap.size w w' := by
  have HB : Hid (Below w.heap.size w (w.alloc (.cells #[.int .i64 a.m, .int .i64 a.k, .int .i64 a.d, .int .i64 a.n, .int .i64 a.s, .int .u8 a.z, .int .i64 a.v, .string a.t] 27))) := ((Below.refl _ _).alloc (by simp <;> omega) _)
  have X0 : Hid (Bx (w.alloc (.cells #[.int .i64 a.m, .int .i64 a.k, .int .i64 a.d, .int .i64 a.n, .int .i64 a.s, .int .u8 a.z, .int .i64 a.v, .string a.t] 27)) (w.heap.size) (hL a)) := (Bx.newAt w (hL a) _ _ (by simp))
  by_cases m1 : 1 ≤ a.m
  case neg =>
    rw [decide_eq_false m1]
    go_enter Tryd.func32, Tryd.ntmps32
    go_wp2
    go_ret
    exact ⟨rfl, HB.out⟩
  by_cases m2 : a.m ≤ 12
  case neg =>
    rw [decide_eq_true m1, decide_eq_false m2]
    go_enter Tryd.func32, Tryd.ntmps32
    go_wp2
    go_ret
    exact ⟨rfl, HB.out⟩
  rw [decide_eq_true m1, decide_eq_true m2]
  go_enter Tryd.func32, Tryd.ntmps32
  go_wp2_with fail
  refine (RO.out _).mono ?_
  rintro e w1 ⟨rfl, hb⟩
  have B1 : Hid (Below w.heap.size w w1) := HB.out.trans (hb.mono HB.out.size)
  have X1 : Hid (Bx w1 w.heap.size (hL a)) := X0.out.below hb
  clear hb HB X0 RO
  cases bO
  · go_wp2
    go_ret
    exact ⟨rfl, B1.out⟩
  have c4 := X1.out.c 4 rfl
  have c5 := X1.out.c 5 rfl
  go_wp2_with fail
  refine (RA.out _).mono ?_
  rintro e w2 ⟨rfl, hb⟩
  have B2 : Hid (Below w.heap.size w w2) := B1.out.trans (hb.mono B1.out.size)
  have c6 := (X1.out.below hb).c 6 rfl
  clear hb B1 X1 RA c4 c5
  cases bA
  · go_wp2
    go_ret
    exact ⟨rfl, B2.out⟩
  go_wp2
  all_goals go_ret
  all_goals refine ⟨Cvl.ret_bool ?_, B2.out⟩
  all_goals first | (simp; done) | (simp; omega)

theorem rhalf_any (a : Hf) (w : World) :
    Calls Tryd.prog 32 #[.agg #[.int .i64 a.m, .int .i64 a.k, .int .i64 a.d, .int .i64 a.n, .int .i64 a.s, .int .u8 a.z, .int .i64 a.v, .string a.t]] w fun e w' => e = .returned (.bool (okH a)) ∧ Below w.heap.size w w' := by
  have key : ∀ bO bA : Bool, (bO = true ↔ okOn a.k a.d a.n) → (bA = true ↔ okAt a.s a.z) → okH a = (decide (1 ≤ a.m) && decide (a.m ≤ 12) && bO && bA && decide (0 ≤ a.v) && decide (a.v ≤ 7200)) := fun bO bA h1 h2 => by
    unfold okH dyA
    rw [Bool.eq_iff_iff]
    simp only [Bool.and_eq_true, decide_eq_true_eq, h1, h2]
    constructor
    · rintro ⟨⟨q1, q2, q3⟩, q4, q5, q6⟩; exact ⟨⟨⟨⟨⟨q2, q3⟩, q1⟩, q4⟩, q5⟩, q6⟩
    · rintro ⟨⟨⟨⟨⟨q2, q3⟩, q1⟩, q4⟩, q5⟩, q6⟩; exact ⟨⟨q1, q2, q3⟩, q4, q5, q6⟩
  by_cases h1 : okOn a.k a.d a.n <;> by_cases h2 : okAt a.s a.z
  · rw [key true true (by simp [h1]) (by simp [h2])]; exact rhalf_run a true true (rightOn_yes a.k a.d a.n h1) (rightAt_yes a.s a.z h2) w
  · rw [key true false (by simp [h1]) (by simp [h2])]; exact rhalf_run a true false (rightOn_yes a.k a.d a.n h1) (rightAt_no a.s a.z h2) w
  · rw [key false true (by simp [h1]) (by simp [h2])]; exact rhalf_run a false true (rightOn_no a.k a.d a.n h1) (rightAt_yes a.s a.z h2) w
  · rw [key false false (by simp [h1]) (by simp [h2])]; exact rhalf_run a false false (rightOn_no a.k a.d a.n h1) (rightAt_no a.s a.z h2) w

set_option maxRecDepth 100000 in
set_option maxHeartbeats 8000000 in
theorem rcan_run (f : Ft) (bA bB : Bool) (mb : bA = true → bB = true → 1 ≤ f.A.m ∧ f.A.m ≤ 12 ∧ 1 ≤ f.B.m ∧ f.B.m ≤ 12)
    (IA : Hid (∀ w : World, Calls Tryd.prog 32 #[.agg #[.int .i64 f.A.m, .int .i64 f.A.k, .int .i64 f.A.d, .int .i64 f.A.n, .int .i64 f.A.s, .int .u8 f.A.z, .int .i64 f.A.v, .string f.A.t]] w fun e w' => e = .returned (.bool bA) ∧ Below w.heap.size w w'))
    (IB : Hid (∀ w : World, Calls Tryd.prog 32 #[.agg #[.int .i64 f.B.m, .int .i64 f.B.k, .int .i64 f.B.d, .int .i64 f.B.n, .int .i64 f.B.s, .int .u8 f.B.z, .int .i64 f.B.v, .string f.B.t]] w fun e w' => e = .returned (.bool bB) ∧ Below w.heap.size w w'))
    (w : World) :
    Calls Tryd.prog 23 #[.agg #[.bool f.h, .int .i64 f.fr, .int .i64 f.off, .int .i64 f.A.m, .int .i64 f.A.k, .int .i64 f.A.d, .int .i64 f.A.n, .int .i64 f.A.s, .int .u8 f.A.z, .int .i64 f.A.v, .string f.A.t, .int .i64 f.B.m, .int .i64 f.B.k, .int .i64 f.B.d, .int .i64 f.B.n, .int .i64 f.B.s, .int .u8 f.B.z, .int .i64 f.B.v, .string f.B.t]] w fun e w' => e = .returned (.bool (f.h && decide (-50400 ≤ f.off) && decide (f.off ≤ 50400) && bA && bB && far f.A.m f.B.m)) ∧ Below w.heap.size w w' := by
  have HB : Hid (Below w.heap.size w (w.alloc (.cells #[.bool f.h, .int .i64 f.fr, .int .i64 f.off, .int .i64 f.A.m, .int .i64 f.A.k, .int .i64 f.A.d, .int .i64 f.A.n, .int .i64 f.A.s, .int .u8 f.A.z, .int .i64 f.A.v, .string f.A.t, .int .i64 f.B.m, .int .i64 f.B.k, .int .i64 f.B.d, .int .i64 f.B.n, .int .i64 f.B.s, .int .u8 f.B.z, .int .i64 f.B.v, .string f.B.t] 29))) := ((Below.refl _ _).alloc (by simp <;> omega) _)
  have X0 : Hid (Bx (w.alloc (.cells #[.bool f.h, .int .i64 f.fr, .int .i64 f.off, .int .i64 f.A.m, .int .i64 f.A.k, .int .i64 f.A.d, .int .i64 f.A.n, .int .i64 f.A.s, .int .u8 f.A.z, .int .i64 f.A.v, .string f.A.t, .int .i64 f.B.m, .int .i64 f.B.k, .int .i64 f.B.d, .int .i64 f.B.n, .int .i64 f.B.s, .int .u8 f.B.z, .int .i64 f.B.v, .string f.B.t] 29)) (w.heap.size) (fL f)) := (Bx.newAt w (fL f) _ _ (by simp))
  have MB : Hid (bA = true → bB = true → 1 ≤ f.A.m ∧ f.A.m ≤ 12 ∧ 1 ≤ f.B.m ∧ f.B.m ≤ 12) := mb
  clear mb
  cases hh : f.h
  · rw [hh] at HB X0
    go_enter Tryd.func23, Tryd.ntmps23
    go_wp2
    go_ret
    exact ⟨rfl, HB.out⟩
  rw [hh] at HB X0
  go_enter Tryd.func23, Tryd.ntmps23
  go_wp2_with fail
  refine (IA.out _).mono ?_
  rintro e w1 ⟨rfl, hb⟩
  have B1 : Hid (Below w.heap.size w w1) := HB.out.trans (hb.mono HB.out.size)
  have X1 : Hid (Bx w1 w.heap.size (fL f)) := X0.out.below hb
  clear hb HB X0 IA
  cases bA
  · go_wp2
    go_ret
    exact ⟨by simp, B1.out⟩
  have c11 := X1.out.c 11 rfl
  have c12 := X1.out.c 12 rfl
  have c13 := X1.out.c 13 rfl
  have c14 := X1.out.c 14 rfl
  have c15 := X1.out.c 15 rfl
  have c16 := X1.out.c 16 rfl
  have c17 := X1.out.c 17 rfl
  have c18 := X1.out.c 18 rfl
  go_wp2_with fail
  refine (IB.out _).mono ?_
  rintro e w2 ⟨rfl, hb⟩
  have B2 : Hid (Below w.heap.size w w2) := B1.out.trans (hb.mono B1.out.size)
  have d2 := (X1.out.below hb).c 2 rfl
  have d3 := (X1.out.below hb).c 3 rfl
  have d11 := (X1.out.below hb).c 11 rfl
  clear hb B1 X1 IB c11 c12 c13 c14 c15 c16 c17 c18
  cases bB
  · go_wp2
    go_ret
    exact ⟨by simp, B2.out⟩
  obtain ⟨m1, m2, m3, m4⟩ : 1 ≤ f.A.m ∧ f.A.m ≤ 12 ∧ 1 ≤ f.B.m ∧ f.B.m ≤ 12 := by first | exact MB.out rfl rfl | exact MB.out trivial trivial | exact MB.out trivial rfl | exact MB.out trivial | exact MB.out
  clear MB
  by_cases o1 : -50400 ≤ f.off
  · by_cases o2 : f.off ≤ 50400
    · have O1 : Hid (-50400 ≤ f.off) := o1
      have O2 : Hid (f.off ≤ 50400) := o2
      go_wp2
      all_goals go_ret
      all_goals refine ⟨Cvl.ret_bool ?_, B2.out⟩
      all_goals unfold far
      all_goals first | exact (decide_eq_false (by split <;> omega)).symm | exact (decide_eq_true (by split <;> omega)).symm | (rw [decide_eq_true O1.out, decide_eq_true O2.out]; simp only [Bool.true_and, Bool.and_true]; refine decide_eq_decide.2 ?_; split <;> omega)
    · have O2 : Hid (¬ f.off ≤ 50400) := o2
      go_wp2
      go_ret
      exact ⟨Cvl.ret_bool (by have := O2.out; first | rfl | (simp; done) | (simp; omega)), B2.out⟩
  · have O1 : Hid (¬ -50400 ≤ f.off) := o1
    go_wp2
    go_ret
    exact ⟨Cvl.ret_bool (by have := O1.out; first | rfl | (simp; done) | (simp; omega)), B2.out⟩

theorem rcan_any (f : Ft) (w : World) :
    Calls Tryd.prog 23 #[.agg #[.bool f.h, .int .i64 f.fr, .int .i64 f.off, .int .i64 f.A.m, .int .i64 f.A.k, .int .i64 f.A.d, .int .i64 f.A.n, .int .i64 f.A.s, .int .u8 f.A.z, .int .i64 f.A.v, .string f.A.t, .int .i64 f.B.m, .int .i64 f.B.k, .int .i64 f.B.d, .int .i64 f.B.n, .int .i64 f.B.s, .int .u8 f.B.z, .int .i64 f.B.v, .string f.B.t]] w fun e w' => e = .returned (.bool (okF f)) ∧ Below w.heap.size w w' :=
  rcan_run f (okH f.A) (okH f.B) (fun ha hb => by
    have A := (okH_of ha).1
    have B := (okH_of hb).1
    exact ⟨A.2.1, A.2.2, B.2.1, B.2.2⟩) (fun w => rhalf_any f.A w) (fun w => rhalf_any f.B w) w

end Go.Proofs.YthbcicjkmgoliaaDoor
