/- Contracts: when.TextOn and the reference's. -/
import Derived.Test.YtdkodkkbggdpbabDoorWhnL
import Derived.Test.YtdkodkkbggdpbabDoorDigA
namespace Go.Proofs.YtdkodkkbggdpbabDoor
open Go.RowKit
set_option linter.unusedVariables false

/-- a weekday's first three letters. -/
def dayB (d : Int) : ByteArray := if d = 0 then ⟨#[83, 117, 110]⟩ else if d = 1 then ⟨#[77, 111, 110]⟩ else if d = 2 then ⟨#[84, 117, 101]⟩ else if d = 3 then ⟨#[87, 101, 100]⟩ else if d = 4 then ⟨#[84, 104, 117]⟩ else if d = 5 then ⟨#[70, 114, 105]⟩ else ⟨#[83, 97, 116]⟩
def digB (n : Int) : ByteArray := ⟨(Lib.itoa n).toArray⟩
/-- a day of a month as rules say it. -/
def onT (k d n : Int) : ByteArray := if k = 0 then digB n else if k = 1 then ⟨#[108, 97, 115, 116]⟩ ++ dayB d else if k = 2 then (dayB d ++ ⟨#[62, 61]⟩) ++ digB n else (dayB d ++ ⟨#[60, 61]⟩) ++ digB n
theorem itoa_nat (i : Nat) : Lib.itoa (i : Int) = Lib.decDigits i := by unfold Lib.itoa; rw [if_neg (by omega)]; simp
theorem format_small (n : Int) (h0 : 0 ≤ n) (h1 : n < 100) (w : World) : Calls Tryd.prog 51 #[.int .i64 n, .int .i64 10] w fun e w' => e = .returned (.string (digB n)) ∧ w' = w := by
  obtain ⟨i, rfl⟩ : ∃ i : Nat, n = (i : Int) := ⟨n.toNat, by omega⟩
  have R := Tryd.strconv_FormatInt_10_small i (by omega) w
  unfold digB
  rw [itoa_nat]
  exact R
theorem digB_size (n : Int) (h0 : 0 ≤ n) (h1 : n < 100) : (digB n).size ≤ 21 := by
  have := Lib.itoa_length_le n (by omega) (by omega)
  unfold digB
  rw [sizeL]
  omega
theorem seven {d : Int} (h0 : 0 ≤ d) (h1 : d ≤ 6) : d = 0 ∨ d = 1 ∨ d = 2 ∨ d = 3 ∨ d = 4 ∨ d = 5 ∨ d = 6 := by omega
theorem dayB_size (d : Int) : (dayB d).size = 3 := by unfold dayB; repeat' split <;> try rfl

set_option maxRecDepth 100000 in
set_option maxHeartbeats 8000000 in
theorem nameOf_any (d : Int) (h0 : 0 ≤ d) (h1 : d ≤ 6) (w : World) : Calls Tryd.prog 81 #[.int .i64 d] w fun e w' => e = .returned (.string (dayB d)) ∧ w' = w := by
  rcases seven h0 h1 with rfl | rfl | rfl | rfl | rfl | rfl | rfl
  all_goals
    go_enter Tryd.func81, Tryd.ntmps81
    go_wp2
    go_ret
    exact ⟨rfl, rfl⟩

set_option maxRecDepth 100000 in
set_option maxHeartbeats 8000000 in
theorem textOf_num (n : Int) (n1 : 1 ≤ n) (n2 : n ≤ 31) (w : World) :
    Calls Tryd.prog 48 #[.iface 109 (.agg #[.int .i64 n])] w fun e w' => e = .returned (.string (digB n)) ∧ Below w.heap.size w w' := by
  have FI : Hid (∀ w : World, Calls Tryd.prog 51 #[.int .i64 n, .int .i64 10] w fun e w' => e = .returned (.string (digB n)) ∧ w' = w) := format_small n (by omega) (by omega)
  have t1 := ta_num n
  go_enter Tryd.func48, Tryd.ntmps48
  go_wp2_with fail
  refine (FI.out _).mono ?_
  rintro e w1 ⟨rfl, rfl⟩
  go_wp2
  go_ret
  exact ⟨rfl, (by repeat' (first | assumption | exact Below.refl _ _ | exact Nat.le_refl _ | refine Below.alloc ?_ ?_ _ | (simp; done) | (simp; omega) | omega))⟩

set_option maxRecDepth 100000 in
set_option maxHeartbeats 8000000 in
theorem textOf_fin (d : Int) (d1 : 0 ≤ d) (d2 : d ≤ 6) (w : World) :
    Calls Tryd.prog 48 #[.iface 113 (.agg #[.int .i64 d])] w fun e w' => e = .returned (.string (⟨#[108, 97, 115, 116]⟩ ++ dayB d)) ∧ Below w.heap.size w w' := by
  have NM : Hid (∀ w : World, Calls Tryd.prog 81 #[.int .i64 d] w fun e w' => e = .returned (.string (dayB d)) ∧ w' = w) := nameOf_any d d1 d2
  have t1 : ∀ w0 : World, (Instr.typeAssert (.iface 113 (.agg #[.int .i64 d])) 71 109 true).run Tryd.prog w0 = .ok (.tuple #[.agg #[.int .i64 0], .bool false]) w0 := ta_not Tryd.underlying109 zNum (by decide) _
  have t2 := ta_fin d
  have sz := dayB_size d
  generalize dayB d = N at *
  go_enter Tryd.func48, Tryd.ntmps48
  go_wp2_with fail
  refine (NM.out _).mono ?_
  rintro e w1 ⟨rfl, rfl⟩
  go_wp2
  go_ret
  exact ⟨rfl, (by repeat' (first | assumption | exact Below.refl _ _ | exact Nat.le_refl _ | refine Below.alloc ?_ ?_ _ | (simp; done) | (simp; omega) | omega))⟩

set_option maxRecDepth 100000 in
set_option maxHeartbeats 8000000 in
theorem textOf_bes2 (d n : Int) (n1 : 1 ≤ n) (n2 : n ≤ 31) (d1 : 0 ≤ d) (d2 : d ≤ 6) (w : World) :
    Calls Tryd.prog 48 #[.iface 111 (.agg #[.int .i64 d, .int .i64 n, .bool false])] w fun e w' => e = .returned (.string ((dayB d ++ ⟨#[62, 61]⟩) ++ digB n)) ∧ Below w.heap.size w w' := by
  have NM : Hid (∀ w : World, Calls Tryd.prog 81 #[.int .i64 d] w fun e w' => e = .returned (.string (dayB d)) ∧ w' = w) := nameOf_any d d1 d2
  have FI : Hid (∀ w : World, Calls Tryd.prog 51 #[.int .i64 n, .int .i64 10] w fun e w' => e = .returned (.string (digB n)) ∧ w' = w) := format_small n (by omega) (by omega)
  have t1 : ∀ w0 : World, (Instr.typeAssert (.iface 111 (.agg #[.int .i64 d, .int .i64 n, .bool false])) 71 109 true).run Tryd.prog w0 = .ok (.tuple #[.agg #[.int .i64 0], .bool false]) w0 := ta_not Tryd.underlying109 zNum (by decide) _
  have t2 : ∀ w0 : World, (Instr.typeAssert (.iface 111 (.agg #[.int .i64 d, .int .i64 n, .bool false])) 71 113 true).run Tryd.prog w0 = .ok (.tuple #[.agg #[.int .i64 0], .bool false]) w0 := ta_not Tryd.underlying113 zFin (by decide) _
  have t3 := ta_bes (.agg #[.int .i64 d, .int .i64 n, .bool false])
  have sz := dayB_size d
  have sn := digB_size n (by omega) (by omega)
  generalize dayB d = N at *
  generalize digB n = D at *
  go_enter Tryd.func48, Tryd.ntmps48
  go_wp2_with fail
  go_quiet (first | (go_at_call 81; refine Calls.quiet_of_same (NM.out _)) | (go_at_call 51; refine Calls.quiet_of_same (FI.out _)))
  go_wp2
  go_ret
  exact ⟨rfl, below_drewN (by repeat' (first | assumption | exact Below.refl _ _ | exact Nat.le_refl _ | refine Below.alloc ?_ ?_ _ | (simp; done) | (simp; omega) | omega)) nq⟩

set_option maxRecDepth 100000 in
set_option maxHeartbeats 8000000 in
theorem textOf_bes3 (d n : Int) (n1 : 1 ≤ n) (n2 : n ≤ 31) (d1 : 0 ≤ d) (d2 : d ≤ 6) (w : World) :
    Calls Tryd.prog 48 #[.iface 111 (.agg #[.int .i64 d, .int .i64 n, .bool true])] w fun e w' => e = .returned (.string ((dayB d ++ ⟨#[60, 61]⟩) ++ digB n)) ∧ Below w.heap.size w w' := by
  have NM : Hid (∀ w : World, Calls Tryd.prog 81 #[.int .i64 d] w fun e w' => e = .returned (.string (dayB d)) ∧ w' = w) := nameOf_any d d1 d2
  have FI : Hid (∀ w : World, Calls Tryd.prog 51 #[.int .i64 n, .int .i64 10] w fun e w' => e = .returned (.string (digB n)) ∧ w' = w) := format_small n (by omega) (by omega)
  have t1 : ∀ w0 : World, (Instr.typeAssert (.iface 111 (.agg #[.int .i64 d, .int .i64 n, .bool true])) 71 109 true).run Tryd.prog w0 = .ok (.tuple #[.agg #[.int .i64 0], .bool false]) w0 := ta_not Tryd.underlying109 zNum (by decide) _
  have t2 : ∀ w0 : World, (Instr.typeAssert (.iface 111 (.agg #[.int .i64 d, .int .i64 n, .bool true])) 71 113 true).run Tryd.prog w0 = .ok (.tuple #[.agg #[.int .i64 0], .bool false]) w0 := ta_not Tryd.underlying113 zFin (by decide) _
  have t3 := ta_bes (.agg #[.int .i64 d, .int .i64 n, .bool true])
  have sz := dayB_size d
  have sn := digB_size n (by omega) (by omega)
  generalize dayB d = N at *
  generalize digB n = D at *
  go_enter Tryd.func48, Tryd.ntmps48
  go_wp2_with fail
  go_quiet (first | (go_at_call 81; refine Calls.quiet_of_same (NM.out _)) | (go_at_call 51; refine Calls.quiet_of_same (FI.out _)))
  go_wp2
  go_ret
  exact ⟨rfl, below_drewN (by repeat' (first | assumption | exact Below.refl _ _ | exact Nat.le_refl _ | refine Below.alloc ?_ ?_ _ | (simp; done) | (simp; omega) | omega)) nq⟩

theorem textOf_any (k d n : Int) (h : okOn k d n) (w : World) :
    Calls Tryd.prog 48 #[formV k d n] w fun e w' => e = .returned (.string (onT k d n)) ∧ Below w.heap.size w w' := by
  rcases h with ⟨rfl, h1, h2, rfl⟩ | ⟨rfl, h1, h2, rfl⟩ | ⟨rfl | rfl, h1, h2, h3, h4⟩
  · exact textOf_num n h1 h2 w
  · exact textOf_fin d h1 h2 w
  · exact textOf_bes2 d n h3 h4 h1 h2 w
  · exact textOf_bes3 d n h3 h4 h1 h2 w

set_option maxRecDepth 100000 in
set_option maxHeartbeats 8000000 in
theorem textOn_core (k d n : Int) (t : TypeId) (v : Value) (T : ByteArray)
    (F : Hid (∀ w : World, Calls Tryd.prog 44 #[onV k d n] w fun e w' => e = .returned (.iface t v) ∧ Below w.heap.size w w'))
    (X : Hid (∀ w : World, Calls Tryd.prog 48 #[.iface t v] w fun e w' => e = .returned (.string T) ∧ Below w.heap.size w w')) (w : World) :
    Calls Tryd.prog 24 #[onV k d n] w fun e w' => e = .returned (.tuple #[.string T, .int .i64 0]) ∧ Below w.heap.size w w' := by
  unfold onV at *
  have HB : Hid (BelS w (w.alloc (.cells #[.int .i64 k, .int .i64 d, .int .i64 n] 32))) := (Below.refl _ _).alloc (Nat.le_refl _) _
  go_enter Tryd.func24, Tryd.ntmps24
  go_wp2_with fail
  refine (F.out _).mono ?_
  rintro e w1 ⟨rfl, hb⟩
  have B1 : Hid (BelS w w1) := HB.out.below hb
  clear hb
  go_wp2_with fail
  refine (X.out _).mono ?_
  rintro e w2 ⟨rfl, hb⟩
  have B2 : Hid (BelS w w2) := B1.out.below hb
  clear hb
  go_wp2
  go_ret2
  exact ⟨rfl, B2.out⟩

set_option maxRecDepth 100000 in
set_option maxHeartbeats 8000000 in
theorem textOn_nil (k d n : Int)
    (F : Hid (∀ w : World, Calls Tryd.prog 44 #[onV k d n] w fun e w' => e = .returned .nilIface ∧ Below w.heap.size w w')) (w : World) :
    Calls Tryd.prog 24 #[onV k d n] w fun e w' => e = .returned (.tuple #[.string ⟨#[]⟩, .int .i64 1]) ∧ Below w.heap.size w w' := by
  unfold onV at *
  have HB : Hid (BelS w (w.alloc (.cells #[.int .i64 k, .int .i64 d, .int .i64 n] 32))) := (Below.refl _ _).alloc (Nat.le_refl _) _
  go_enter Tryd.func24, Tryd.ntmps24
  go_wp2_with fail
  refine (F.out _).mono ?_
  rintro e w1 ⟨rfl, hb⟩
  have B1 : Hid (BelS w w1) := HB.out.below hb
  clear hb
  go_wp2
  go_ret2
  exact ⟨rfl, B1.out⟩

theorem textOn_yes (k d n : Int) (h : okOn k d n) (w : World) :
    Calls Tryd.prog 24 #[onV k d n] w fun e w' => e = .returned (.tuple #[.string (onT k d n), .int .i64 0]) ∧ Below w.heap.size w w' := by
  obtain ⟨t, v, hv⟩ := formV_is k d n
  have F := formOf_yes k d n h
  have X := textOf_any k d n h
  rw [hv] at F X
  exact textOn_core k d n t v _ F X w

theorem textOn_no (k d n : Int) (h : ¬ okOn k d n) (w : World) :
    Calls Tryd.prog 24 #[onV k d n] w fun e w' => e = .returned (.tuple #[.string ⟨#[]⟩, .int .i64 1]) ∧ Below w.heap.size w w' := textOn_nil k d n (formOf_no k d n h) w

set_option maxRecDepth 100000 in
set_option maxHeartbeats 8000000 in
theorem rtextOn_no (k d n : Int)
    (RO : Hid (∀ w : World, Calls Tryd.prog 38 #[onV k d n] w fun e w' => e = .returned (.bool false) ∧ Below w.heap.size w w')) (w : World) :
    Calls Tryd.prog 25 #[onV k d n] w fun e w' => e = .returned (.tuple #[.string ⟨#[]⟩, .int .i64 1]) ∧ Below w.heap.size w w' := by
  unfold onV at *
  have HB : Hid (BelS w (w.alloc (.cells #[.int .i64 k, .int .i64 d, .int .i64 n] 35))) := (Below.refl _ _).alloc (Nat.le_refl _) _
  go_enter Tryd.func25, Tryd.ntmps25
  go_wp2_with fail
  refine (RO.out _).mono ?_
  rintro e w1 ⟨rfl, hb⟩
  have B1 : Hid (BelS w w1) := HB.out.below hb
  clear hb
  go_wp2
  go_ret2
  exact ⟨rfl, B1.out⟩

set_option maxRecDepth 100000 in
set_option maxHeartbeats 8000000 in
theorem rtextOn_0 (n : Int) (n1 : 1 ≤ n) (n2 : n ≤ 31) 
    (RO : Hid (∀ w : World, Calls Tryd.prog 38 #[onV 0 0 n] w fun e w' => e = .returned (.bool true) ∧ Below w.heap.size w w')) (w : World) :
    Calls Tryd.prog 25 #[onV 0 0 n] w fun e w' => e = .returned (.tuple #[.string (digB n), .int .i64 0]) ∧ Below w.heap.size w w' := by
  unfold onV at *
  have S0 : Hid (OnS w w.heap.size 0 0 n (w.alloc (.cells #[.int .i64 0, .int .i64 0, .int .i64 n] 35))) := OnS.new w _ _ _ _
  have DG : Hid (∀ w : World, Calls Tryd.prog 49 #[.int .i64 n] w fun e w' => e = .returned (.string (digB n)) ∧ Below w.heap.size w w') := Clk.digits_any n (by omega) (by omega)
  have sn := digB_size n (by omega) (by omega)
  generalize digB n = D at *
  · go_enter Tryd.func25, Tryd.ntmps25
    go_wp2_with fail
    refine (RO.out _).mono ?_
    rintro e w1 ⟨rfl, hb⟩
    have S1 : Hid (OnS w w.heap.size _ _ _ w1) := S0.out.below hb
    obtain ⟨o1, o2, o3, o4, o5⟩ := id S1.out
    clear hb o5
    go_wp2_with fail
    refine (DG.out _).mono ?_
    rintro e w2 ⟨rfl, hb⟩
    have B2 : Hid (Below w.heap.size w w2) := (S1.out.2.2.2.2.alloc S1.out.2.2.2.2.size _).trans (hb.mono (by have := S1.out.2.2.2.2.size; simp; omega))
    clear hb
    go_wp2
    go_ret2
    exact ⟨rfl, B2.out⟩

set_option maxRecDepth 100000 in
set_option maxHeartbeats 8000000 in
theorem rtextOn_1 (d : Int) (d1 : 0 ≤ d) (d2 : d ≤ 6) 
    (RO : Hid (∀ w : World, Calls Tryd.prog 38 #[onV 1 d 0] w fun e w' => e = .returned (.bool true) ∧ Below w.heap.size w w')) (w : World) :
    Calls Tryd.prog 25 #[onV 1 d 0] w fun e w' => e = .returned (.tuple #[.string (⟨#[108, 97, 115, 116]⟩ ++ dayB d), .int .i64 0]) ∧ Below w.heap.size w w' := by
  unfold onV at *
  have S0 : Hid (OnS w w.heap.size 1 d 0 (w.alloc (.cells #[.int .i64 1, .int .i64 d, .int .i64 0] 35))) := OnS.new w _ _ _ _
  rcases seven d1 d2 with rfl | rfl | rfl | rfl | rfl | rfl | rfl
  all_goals
    go_enter Tryd.func25, Tryd.ntmps25
    go_wp2_with fail
    refine (RO.out _).mono ?_
    rintro e w1 ⟨rfl, hb⟩
    have S1 : Hid (OnS w w.heap.size _ _ _ w1) := S0.out.below hb
    obtain ⟨o1, o2, o3, o4, o5⟩ := id S1.out
    clear hb o5
    go_wp2
    go_ret2
    exact ⟨rfl, S1.out.2.2.2.2.alloc S1.out.2.2.2.2.size _⟩

set_option maxRecDepth 100000 in
set_option maxHeartbeats 8000000 in
theorem rtextOn_2 (d n : Int) (n1 : 1 ≤ n) (n2 : n ≤ 31) (d1 : 0 ≤ d) (d2 : d ≤ 6) 
    (RO : Hid (∀ w : World, Calls Tryd.prog 38 #[onV 2 d n] w fun e w' => e = .returned (.bool true) ∧ Below w.heap.size w w')) (w : World) :
    Calls Tryd.prog 25 #[onV 2 d n] w fun e w' => e = .returned (.tuple #[.string ((dayB d ++ ⟨#[62, 61]⟩) ++ digB n), .int .i64 0]) ∧ Below w.heap.size w w' := by
  unfold onV at *
  have S0 : Hid (OnS w w.heap.size 2 d n (w.alloc (.cells #[.int .i64 2, .int .i64 d, .int .i64 n] 35))) := OnS.new w _ _ _ _
  have DG : Hid (∀ w : World, Calls Tryd.prog 49 #[.int .i64 n] w fun e w' => e = .returned (.string (digB n)) ∧ Below w.heap.size w w') := Clk.digits_any n (by omega) (by omega)
  have sn := digB_size n (by omega) (by omega)
  generalize digB n = D at *
  rcases seven d1 d2 with rfl | rfl | rfl | rfl | rfl | rfl | rfl
  all_goals
    go_enter Tryd.func25, Tryd.ntmps25
    go_wp2_with fail
    refine (RO.out _).mono ?_
    rintro e w1 ⟨rfl, hb⟩
    have S1 : Hid (OnS w w.heap.size _ _ _ w1) := S0.out.below hb
    obtain ⟨o1, o2, o3, o4, o5⟩ := id S1.out
    clear hb o5
    go_wp2_with fail
    refine (DG.out _).mono ?_
    rintro e w2 ⟨rfl, hb⟩
    have B2 : Hid (Below w.heap.size w w2) := (S1.out.2.2.2.2.alloc S1.out.2.2.2.2.size _).trans (hb.mono (by have := S1.out.2.2.2.2.size; simp; omega))
    clear hb
    go_wp2
    go_ret2
    exact ⟨rfl, B2.out⟩

set_option maxRecDepth 100000 in
set_option maxHeartbeats 8000000 in
theorem rtextOn_3 (d n : Int) (n1 : 1 ≤ n) (n2 : n ≤ 31) (d1 : 0 ≤ d) (d2 : d ≤ 6) 
    (RO : Hid (∀ w : World, Calls Tryd.prog 38 #[onV 3 d n] w fun e w' => e = .returned (.bool true) ∧ Below w.heap.size w w')) (w : World) :
    Calls Tryd.prog 25 #[onV 3 d n] w fun e w' => e = .returned (.tuple #[.string ((dayB d ++ ⟨#[60, 61]⟩) ++ digB n), .int .i64 0]) ∧ Below w.heap.size w w' := by
  unfold onV at *
  have S0 : Hid (OnS w w.heap.size 3 d n (w.alloc (.cells #[.int .i64 3, .int .i64 d, .int .i64 n] 35))) := OnS.new w _ _ _ _
  have DG : Hid (∀ w : World, Calls Tryd.prog 49 #[.int .i64 n] w fun e w' => e = .returned (.string (digB n)) ∧ Below w.heap.size w w') := Clk.digits_any n (by omega) (by omega)
  have sn := digB_size n (by omega) (by omega)
  generalize digB n = D at *
  rcases seven d1 d2 with rfl | rfl | rfl | rfl | rfl | rfl | rfl
  all_goals
    go_enter Tryd.func25, Tryd.ntmps25
    go_wp2_with fail
    refine (RO.out _).mono ?_
    rintro e w1 ⟨rfl, hb⟩
    have S1 : Hid (OnS w w.heap.size _ _ _ w1) := S0.out.below hb
    obtain ⟨o1, o2, o3, o4, o5⟩ := id S1.out
    clear hb o5
    go_wp2_with fail
    refine (DG.out _).mono ?_
    rintro e w2 ⟨rfl, hb⟩
    have B2 : Hid (Below w.heap.size w w2) := (S1.out.2.2.2.2.alloc S1.out.2.2.2.2.size _).trans (hb.mono (by have := S1.out.2.2.2.2.size; simp; omega))
    clear hb
    go_wp2
    go_ret2
    exact ⟨rfl, B2.out⟩

theorem rtextOn_yes (k d n : Int) (h : okOn k d n) (w : World) :
    Calls Tryd.prog 25 #[onV k d n] w fun e w' => e = .returned (.tuple #[.string (onT k d n), .int .i64 0]) ∧ Below w.heap.size w w' := by
  have RO := rightOn_yes k d n h
  rcases h with ⟨rfl, h1, h2, rfl⟩ | ⟨rfl, h1, h2, rfl⟩ | ⟨rfl | rfl, h1, h2, h3, h4⟩
  · exact rtextOn_0 n h1 h2 RO w
  · exact rtextOn_1 d h1 h2 RO w
  · exact rtextOn_2 d n h3 h4 h1 h2 RO w
  · exact rtextOn_3 d n h3 h4 h1 h2 RO w

end Go.Proofs.YtdkodkkbggdpbabDoor
