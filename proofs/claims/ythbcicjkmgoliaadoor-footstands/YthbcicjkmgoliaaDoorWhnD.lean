/- Contracts: the reference's Day, whole. -/
import Derived.Test.YthbcicjkmgoliaaDoorWhnC
namespace Go.Proofs.YthbcicjkmgoliaaDoor
open Go.RowKit
set_option linter.unusedVariables false

theorem ret_pair {a b c : Int} (h : a = b) : Ending.returned (.tuple #[.int .i64 a, .int .i64 c]) = .returned (.tuple #[.int .i64 b, .int .i64 c]) := by rw [h]

set_option maxRecDepth 100000 in
set_option maxHeartbeats 8000000 in
theorem rday_k1 (y m d F L : Int) (l1 : 0 ≤ L) (l2 : L ≤ 31) (d1 : 0 ≤ d) (d2 : d ≤ 6)
    (RO : Hid (∀ w : World, Calls Tryd.prog 40 #[onV 1 d 0] w fun e w' => e = .returned (.bool true) ∧ Below w.heap.size w w'))
    (DY : Hid (∀ w : World, Calls Tryd.prog 42 #[.int .i64 y, .int .i64 m, .int .i64 1] w fun e w' => e = .returned (.tuple #[.int .i64 F, .int .i64 0]) ∧ w' = w))
    (LN : Hid (∀ w : World, Calls Tryd.prog 43 #[.int .i64 y, .int .i64 m] w fun e w' => e = .returned (.int .i64 L) ∧ w' = w))
    (h1 : ¬ m < 1) (h2 : ¬ 12 < m) (h3 : ¬ y ≤ -4718) (h4 : ¬ 294282 ≤ y) (f1 : -1000000000 ≤ F) (f2 : F ≤ 1000000000) (w : World) :
    Calls Tryd.prog 33 #[.int .i64 y, .int .i64 m, onV 1 d 0] w fun e w' => e = .returned (.tuple #[.int .i64 ((F + L - 1) - dist (F + L - 1) d false), .int .i64 0]) ∧ Below w.heap.size w w' := by
  unfold onV at *
  obtain ⟨n0, hn0⟩ : ∃ n0, n0 = F + L - 1 := ⟨_, rfl⟩
  obtain ⟨t, ht⟩ : ∃ t, t = dist n0 d false := ⟨_, rfl⟩
  rw [← hn0, ← ht]
  have tb := dist_bd n0 d false
  rw [← ht] at tb
  have HIT : Hid (∀ j : Int, 0 ≤ j → j ≤ t → ((n0 - j + 6) % 7 = d ↔ j = t)) := fun j a b => by
    have r := stp_hit (n0 := n0) (d := d) (j := j) (up := false) a (by omega) d1 d2
    rw [← ht] at r
    exact r
  have WD : Hid (∀ (x : Int) (w : World), Calls Tryd.prog 44 #[.int .i64 x] w fun e w' => e = .returned (.int .i64 ((x + 6) % 7)) ∧ w' = w) := fun x w => Cvl.rweekday_any x w
  have S0 : Hid (OnS w w.heap.size 1 d 0 (w.alloc (.cells #[.int .i64 1, .int .i64 d, .int .i64 0] 23))) := OnS.new w _ _ _ _
  have nb1 : -2000000000 ≤ n0 := by omega
  have nb2 : n0 ≤ 2000000000 := by omega
  obtain ⟨T, hT⟩ : ∃ T : Nat, t = (T : Int) := ⟨t.toNat, by omega⟩
  have T6 : T ≤ 6 := by omega
  clear ht tb
  go_enter Tryd.func33, Tryd.ntmps33
  go_wp2_with fail
  refine (RO.out _).mono ?_
  rintro e w1 ⟨rfl, hb⟩
  have S1 : Hid (OnS w w.heap.size 1 d 0 w1) := S0.out.below hb
  clear hb S0
  go_wp2_with fail
  refine (DY.out _).mono ?_
  rintro e w2 ⟨rfl, rfl⟩
  obtain ⟨o1, o2, o3, o4, o5⟩ := id S1.out
  clear o5
  go_wp2_with fail
  refine (LN.out _).mono ?_
  rintro e w3 ⟨rfl, rfl⟩
  go_wp2_with fail
  go_loopw [10, 11] (fun nv kv W => ∃ j : Nat, j ≤ T ∧ nv = .int .i64 (n0 - (j : Int)) ∧ kv = .int .i64 (j : Int) ∧ OnS w w.heap.size 1 d 0 W) (fun _ kv _ => 7 - (intOf kv).toNat)
  case atStart => exact ⟨0, Nat.zero_le _, by rw [hn0]; simp, rfl, S1.out⟩
  case round =>
    obtain ⟨j, hj, rfl, rfl, hS⟩ := hrel
    have HS : Hid (OnS w w.heap.size 1 d 0 wr) := hS
    obtain ⟨p1, p2, p3, p4, p5⟩ := hS
    clear p5 o1 o2 o3 o4 hn0
    have j7 : (j : Int) < 7 := by omega
    have hw := HIT.out (j : Int) (by omega) (by omega)
    have W1 : Hid (∀ w : World, Calls Tryd.prog 44 #[.int .i64 (n0 - (j : Int))] w fun e w' => e = .returned (.int .i64 ((n0 - (j : Int) + 6) % 7)) ∧ w' = w) := fun w => WD.out _ w
    obtain ⟨q, hq⟩ : ∃ q, q = (n0 - (j : Int) + 6) % 7 := ⟨_, rfl⟩
    rw [← hq] at W1 hw
    by_cases hjt : j = T
    · have e1 : q = d := hw.2 (by omega)
      have e2 : (q != d) = false := by rw [e1]; simp
      have HV : Hid (n0 - (j : Int) = n0 - t) := by show _ = _; rw [hjt, hT]
      clear hq hw hjt e1
      go_wp2_with fail
      go_quiet (first | (go_at_call 44; refine Calls.quiet_of_same (W1.out _)))
      go_wp2
      go_ret2
      exact ⟨ret_pair HV.out, below_drewN HS.out.2.2.2.2 nq⟩
    · have e1 : q ≠ d := fun e => hjt (by have := hw.1 e; omega)
      have e2 : (q != d) = true := bne_iff_ne.2 e1
      have jl : j < T := by omega
      clear hq hw
      go_wp2_with fail
      go_quiet (first | (go_at_call 44; refine Calls.quiet_of_same (W1.out _)))
      go_wp2
      go_roundw
      case rel => exact ⟨j + 1, by omega, by go_num, by go_num, HS.out.drewN nq⟩
      case measure => simp [intOf]; omega

set_option maxRecDepth 100000 in
set_option maxHeartbeats 8000000 in
theorem rday_k2 (y m d F L : Int) (n : Int) (n1 : 1 ≤ n) (n2 : n ≤ 31) (l1 : 0 ≤ L) (l2 : L ≤ 31) (d1 : 0 ≤ d) (d2 : d ≤ 6)
    (RO : Hid (∀ w : World, Calls Tryd.prog 40 #[onV 2 d n] w fun e w' => e = .returned (.bool true) ∧ Below w.heap.size w w'))
    (DY : Hid (∀ w : World, Calls Tryd.prog 42 #[.int .i64 y, .int .i64 m, .int .i64 1] w fun e w' => e = .returned (.tuple #[.int .i64 F, .int .i64 0]) ∧ w' = w))
    (LN : Hid (∀ w : World, Calls Tryd.prog 43 #[.int .i64 y, .int .i64 m] w fun e w' => e = .returned (.int .i64 L) ∧ w' = w))
    (h1 : ¬ m < 1) (h2 : ¬ 12 < m) (h3 : ¬ y ≤ -4718) (h4 : ¬ 294282 ≤ y) (f1 : -1000000000 ≤ F) (f2 : F ≤ 1000000000) (w : World) :
    Calls Tryd.prog 33 #[.int .i64 y, .int .i64 m, onV 2 d n] w fun e w' => e = .returned (.tuple #[.int .i64 ((F + n - 1) + dist (F + n - 1) d true), .int .i64 0]) ∧ Below w.heap.size w w' := by
  unfold onV at *
  obtain ⟨n0, hn0⟩ : ∃ n0, n0 = F + n - 1 := ⟨_, rfl⟩
  obtain ⟨t, ht⟩ : ∃ t, t = dist n0 d true := ⟨_, rfl⟩
  rw [← hn0, ← ht]
  have tb := dist_bd n0 d true
  rw [← ht] at tb
  have HIT : Hid (∀ j : Int, 0 ≤ j → j ≤ t → ((n0 + j + 6) % 7 = d ↔ j = t)) := fun j a b => by
    have r := stp_hit (n0 := n0) (d := d) (j := j) (up := true) a (by omega) d1 d2
    rw [← ht] at r
    exact r
  have WD : Hid (∀ (x : Int) (w : World), Calls Tryd.prog 44 #[.int .i64 x] w fun e w' => e = .returned (.int .i64 ((x + 6) % 7)) ∧ w' = w) := fun x w => Cvl.rweekday_any x w
  have S0 : Hid (OnS w w.heap.size 2 d n (w.alloc (.cells #[.int .i64 2, .int .i64 d, .int .i64 n] 23))) := OnS.new w _ _ _ _
  have nb1 : -2000000000 ≤ n0 := by omega
  have nb2 : n0 ≤ 2000000000 := by omega
  obtain ⟨T, hT⟩ : ∃ T : Nat, t = (T : Int) := ⟨t.toNat, by omega⟩
  have T6 : T ≤ 6 := by omega
  clear ht tb
  go_enter Tryd.func33, Tryd.ntmps33
  go_wp2_with fail
  refine (RO.out _).mono ?_
  rintro e w1 ⟨rfl, hb⟩
  have S1 : Hid (OnS w w.heap.size 2 d n w1) := S0.out.below hb
  clear hb S0
  go_wp2_with fail
  refine (DY.out _).mono ?_
  rintro e w2 ⟨rfl, rfl⟩
  obtain ⟨o1, o2, o3, o4, o5⟩ := id S1.out
  clear o5
  go_wp2_with fail
  go_loopw [10, 11] (fun nv kv W => ∃ j : Nat, j ≤ T ∧ nv = .int .i64 (n0 + (j : Int)) ∧ kv = .int .i64 (j : Int) ∧ OnS w w.heap.size 2 d n W) (fun _ kv _ => 7 - (intOf kv).toNat)
  case atStart => exact ⟨0, Nat.zero_le _, by rw [hn0]; simp, rfl, S1.out⟩
  case round =>
    obtain ⟨j, hj, rfl, rfl, hS⟩ := hrel
    have HS : Hid (OnS w w.heap.size 2 d n wr) := hS
    obtain ⟨p1, p2, p3, p4, p5⟩ := hS
    clear p5 o1 o2 o3 o4 hn0
    have j7 : (j : Int) < 7 := by omega
    have hw := HIT.out (j : Int) (by omega) (by omega)
    have W1 : Hid (∀ w : World, Calls Tryd.prog 44 #[.int .i64 (n0 + (j : Int))] w fun e w' => e = .returned (.int .i64 ((n0 + (j : Int) + 6) % 7)) ∧ w' = w) := fun w => WD.out _ w
    obtain ⟨q, hq⟩ : ∃ q, q = (n0 + (j : Int) + 6) % 7 := ⟨_, rfl⟩
    rw [← hq] at W1 hw
    by_cases hjt : j = T
    · have e1 : q = d := hw.2 (by omega)
      have e2 : (q != d) = false := by rw [e1]; simp
      have HV : Hid (n0 + (j : Int) = n0 + t) := by show _ = _; rw [hjt, hT]
      clear hq hw hjt e1
      go_wp2_with fail
      go_quiet (first | (go_at_call 44; refine Calls.quiet_of_same (W1.out _)))
      go_wp2
      go_ret2
      exact ⟨ret_pair HV.out, below_drewN HS.out.2.2.2.2 nq⟩
    · have e1 : q ≠ d := fun e => hjt (by have := hw.1 e; omega)
      have e2 : (q != d) = true := bne_iff_ne.2 e1
      have jl : j < T := by omega
      clear hq hw
      go_wp2_with fail
      go_quiet (first | (go_at_call 44; refine Calls.quiet_of_same (W1.out _)))
      go_wp2
      go_roundw
      case rel => exact ⟨j + 1, by omega, by go_num, by go_num, HS.out.drewN nq⟩
      case measure => simp [intOf]; omega

set_option maxRecDepth 100000 in
set_option maxHeartbeats 8000000 in
theorem rday_k3 (y m d F L : Int) (n : Int) (n1 : 1 ≤ n) (n2 : n ≤ 31) (l1 : 0 ≤ L) (l2 : L ≤ 31) (d1 : 0 ≤ d) (d2 : d ≤ 6)
    (RO : Hid (∀ w : World, Calls Tryd.prog 40 #[onV 3 d n] w fun e w' => e = .returned (.bool true) ∧ Below w.heap.size w w'))
    (DY : Hid (∀ w : World, Calls Tryd.prog 42 #[.int .i64 y, .int .i64 m, .int .i64 1] w fun e w' => e = .returned (.tuple #[.int .i64 F, .int .i64 0]) ∧ w' = w))
    (LN : Hid (∀ w : World, Calls Tryd.prog 43 #[.int .i64 y, .int .i64 m] w fun e w' => e = .returned (.int .i64 L) ∧ w' = w))
    (h1 : ¬ m < 1) (h2 : ¬ 12 < m) (h3 : ¬ y ≤ -4718) (h4 : ¬ 294282 ≤ y) (f1 : -1000000000 ≤ F) (f2 : F ≤ 1000000000) (w : World) :
    Calls Tryd.prog 33 #[.int .i64 y, .int .i64 m, onV 3 d n] w fun e w' => e = .returned (.tuple #[.int .i64 ((F + n - 1) - dist (F + n - 1) d false), .int .i64 0]) ∧ Below w.heap.size w w' := by
  unfold onV at *
  obtain ⟨n0, hn0⟩ : ∃ n0, n0 = F + n - 1 := ⟨_, rfl⟩
  obtain ⟨t, ht⟩ : ∃ t, t = dist n0 d false := ⟨_, rfl⟩
  rw [← hn0, ← ht]
  have tb := dist_bd n0 d false
  rw [← ht] at tb
  have HIT : Hid (∀ j : Int, 0 ≤ j → j ≤ t → ((n0 - j + 6) % 7 = d ↔ j = t)) := fun j a b => by
    have r := stp_hit (n0 := n0) (d := d) (j := j) (up := false) a (by omega) d1 d2
    rw [← ht] at r
    exact r
  have WD : Hid (∀ (x : Int) (w : World), Calls Tryd.prog 44 #[.int .i64 x] w fun e w' => e = .returned (.int .i64 ((x + 6) % 7)) ∧ w' = w) := fun x w => Cvl.rweekday_any x w
  have S0 : Hid (OnS w w.heap.size 3 d n (w.alloc (.cells #[.int .i64 3, .int .i64 d, .int .i64 n] 23))) := OnS.new w _ _ _ _
  have nb1 : -2000000000 ≤ n0 := by omega
  have nb2 : n0 ≤ 2000000000 := by omega
  obtain ⟨T, hT⟩ : ∃ T : Nat, t = (T : Int) := ⟨t.toNat, by omega⟩
  have T6 : T ≤ 6 := by omega
  clear ht tb
  go_enter Tryd.func33, Tryd.ntmps33
  go_wp2_with fail
  refine (RO.out _).mono ?_
  rintro e w1 ⟨rfl, hb⟩
  have S1 : Hid (OnS w w.heap.size 3 d n w1) := S0.out.below hb
  clear hb S0
  go_wp2_with fail
  refine (DY.out _).mono ?_
  rintro e w2 ⟨rfl, rfl⟩
  obtain ⟨o1, o2, o3, o4, o5⟩ := id S1.out
  clear o5
  go_wp2_with fail
  go_loopw [10, 11] (fun nv kv W => ∃ j : Nat, j ≤ T ∧ nv = .int .i64 (n0 - (j : Int)) ∧ kv = .int .i64 (j : Int) ∧ OnS w w.heap.size 3 d n W) (fun _ kv _ => 7 - (intOf kv).toNat)
  case atStart => exact ⟨0, Nat.zero_le _, by rw [hn0]; simp, rfl, S1.out⟩
  case round =>
    obtain ⟨j, hj, rfl, rfl, hS⟩ := hrel
    have HS : Hid (OnS w w.heap.size 3 d n wr) := hS
    obtain ⟨p1, p2, p3, p4, p5⟩ := hS
    clear p5 o1 o2 o3 o4 hn0
    have j7 : (j : Int) < 7 := by omega
    have hw := HIT.out (j : Int) (by omega) (by omega)
    have W1 : Hid (∀ w : World, Calls Tryd.prog 44 #[.int .i64 (n0 - (j : Int))] w fun e w' => e = .returned (.int .i64 ((n0 - (j : Int) + 6) % 7)) ∧ w' = w) := fun w => WD.out _ w
    obtain ⟨q, hq⟩ : ∃ q, q = (n0 - (j : Int) + 6) % 7 := ⟨_, rfl⟩
    rw [← hq] at W1 hw
    by_cases hjt : j = T
    · have e1 : q = d := hw.2 (by omega)
      have e2 : (q != d) = false := by rw [e1]; simp
      have HV : Hid (n0 - (j : Int) = n0 - t) := by show _ = _; rw [hjt, hT]
      clear hq hw hjt e1
      go_wp2_with fail
      go_quiet (first | (go_at_call 44; refine Calls.quiet_of_same (W1.out _)))
      go_wp2
      go_ret2
      exact ⟨ret_pair HV.out, below_drewN HS.out.2.2.2.2 nq⟩
    · have e1 : q ≠ d := fun e => hjt (by have := hw.1 e; omega)
      have e2 : (q != d) = true := bne_iff_ne.2 e1
      have jl : j < T := by omega
      clear hq hw
      go_wp2_with fail
      go_quiet (first | (go_at_call 44; refine Calls.quiet_of_same (W1.out _)))
      go_wp2
      go_roundw
      case rel => exact ⟨j + 1, by omega, by go_num, by go_num, HS.out.drewN nq⟩
      case measure => simp [intOf]; omega

theorem rday_any (y m k d n : Int) (w : World) :
    Calls Tryd.prog 33 #[.int .i64 y, .int .i64 m, onV k d n] w fun e w' => e = .returned (.tuple #[.int .i64 (dyV y m k d n), .int .i64 (dyE y m k d n)]) ∧ Below w.heap.size w w' := by
  unfold dyV dyE
  by_cases ho : okOn k d n
  · have RO := rightOn_yes k d n ho
    by_cases hm : 1 ≤ m ∧ m ≤ 12
    · have ha : dyA m k d n := ⟨ho, hm.1, hm.2⟩
      rw [if_pos ha, if_pos ha]
      by_cases hy : dyY y
      · rw [if_pos hy, if_pos hy]
        have bd := fst1_bd hy hm.1 hm.2
        have lb := Cv.len_bd y m
        have hr := first_right (y := y) hy hm.1 hm.2
        unfold dyY at hy
        have DY : Hid (∀ w : World, Calls Tryd.prog 42 #[.int .i64 y, .int .i64 m, .int .i64 1] w fun e w' => e = .returned (.tuple #[.int .i64 (fst1 y m), .int .i64 0]) ∧ w' = w) := fun w => by
          have R := Cvl.rdays_yes y m 1 hr w
          rw [show Cv.S y + Cv.cum y m + 1 - 1 = fst1 y m by unfold fst1; omega] at R
          exact R
        have LN : Hid (∀ w : World, Calls Tryd.prog 43 #[.int .i64 y, .int .i64 m] w fun e w' => e = .returned (.int .i64 (Cv.len y m)) ∧ w' = w) := fun w => Cvl.rlen_any y m w
        generalize fst1 y m = F at *
        generalize Cv.len y m = L at *
        rcases ho with ⟨rfl, a1, a2, rfl⟩ | ⟨rfl, a1, a2, rfl⟩ | ⟨rfl | rfl, a1, a2, a3, a4⟩
        · exact rday_zero y m n F RO DY (by omega) (by omega) (by omega) (by omega) (by omega) (by omega) (by omega) a2 w
        · have R := rday_k1 y m d F L lb.1 lb.2 a1 a2 RO DY LN (by omega) (by omega) (by omega) (by omega) (by omega) (by omega) w
          rw [show F + L - 1 - dist (F + L - 1) d false = dayN F L 1 d 0 by unfold dayN bk dist; simp; omega] at R
          exact R
        · have R := rday_k2 y m d F L n a3 a4 lb.1 lb.2 a1 a2 RO DY LN (by omega) (by omega) (by omega) (by omega) (by omega) (by omega) w
          rw [show F + n - 1 + dist (F + n - 1) d true = dayN F L 2 d n by unfold dayN bk dist; simp; omega] at R
          exact R
        · have R := rday_k3 y m d F L n a3 a4 lb.1 lb.2 a1 a2 RO DY LN (by omega) (by omega) (by omega) (by omega) (by omega) (by omega) w
          rw [show F + n - 1 - dist (F + n - 1) d false = dayN F L 3 d n by unfold dayN bk dist; simp; omega] at R
          exact R
      · rw [if_neg hy, if_neg hy]
        unfold dyY at hy
        exact rday_range y m k d n RO (by omega) (by omega) (by omega) w
    · have ha : ¬ dyA m k d n := fun q => hm q.2
      rw [if_neg ha, if_neg ha]
      exact rday_arg y m k d n _ RO (by omega) w
  · have ha : ¬ dyA m k d n := fun q => ho q.1
    rw [if_neg ha, if_neg ha]
    exact rday_arg y m k d n _ (rightOn_no k d n ho) (.inl rfl) w

end Go.Proofs.YthbcicjkmgoliaaDoor
