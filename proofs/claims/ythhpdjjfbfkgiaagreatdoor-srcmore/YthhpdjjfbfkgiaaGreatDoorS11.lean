import Derived.Test.YthhpdjjfbfkgiaaGreatDoorS9
import Derived.Test.YthhpdjjfbfkgiaaGreatDoorS10
/- Contracts: when.number, when.readForm way by way, when.ReadOn. -/
namespace Go.Proofs.YthhpdjjfbfkgiaaGreatDoor
open Go.RowKit
set_option linter.unusedVariables false

/-- what one or two digits tell, 0 of any other text. -/
def numN (s : ByteArray) : Int := if s.size ≤ 2 then Wrd.numV s else 0

set_option maxRecDepth 100000 in
set_option maxHeartbeats 4000000 in
theorem number_any (s : ByteArray) (V : Int) (hV : Hid (numN s = V)) (hs : s.size ≤ maxLen) (w : World) :
    Calls Tryz.prog 125 #[.string s] w fun e w' => e = .returned (.int .i64 V) ∧ Below w.heap.size w w' := by
  by_cases h : s.size ≤ 2
  · have e : Wrd.numV s = V := by have := hV.out; unfold numN at this; rwa [if_pos h] at this
    have C := Wrd.wnumber_any s V (Wrd.numE s) e rfl hs
    have HC : Hid (∀ w : World, Calls Tryz.prog 105 #[.string s] w fun e w' => e = .returned (.tuple #[.int .i64 V, .int .i64 (Wrd.numE s)]) ∧ Below w.heap.size w w') := C
    have h' : ¬ (2 : Int) < (s.size : Int) := by omega
    clear C e hV
    generalize Wrd.numE s = E at *
    go_enter Tryz.func125, Tryz.ntmps125
    go_wp2_with fail
    refine (HC.out _).mono ?_
    rintro e w1 ⟨rfl, hb⟩
    go_wp2
    go_ret
    exact ⟨rfl, hb⟩
  · have e : (0 : Int) = V := by have := hV.out; unfold numN at this; rwa [if_neg h] at this
    subst e
    have h' : (2 : Int) < (s.size : Int) := by omega
    go_enter Tryz.func125, Tryz.ntmps125
    go_wp2
    go_ret
    exact ⟨rfl, Below.refl _ _⟩

/- READFORM -/

/-- nothing below has turned. -/
def BelS (w : World) (W : World) : Prop := Below w.heap.size w W
theorem BelS.below {w W W1 : World} (h : BelS w W) (hb : Below W.heap.size W W1) : BelS w W1 := Below.trans h (hb.mono (Below.size h))
theorem BelS.drew {w W : World} (h : BelS w W) : BelS w W.drew := Below.drew h
theorem BelS.out {w W : World} (h : BelS w W) : Below w.heap.size w W := h

set_option maxRecDepth 100000 in
set_option maxHeartbeats 4000000 in
theorem rf_num (s NM RS : ByteArray) (n : Int) (h0 : NM = ⟨#[]⟩)
    (CU : Hid (∀ w : World, Calls Tryz.prog 123 #[.string s, .func (.func 124) #[] #[]] w fun e w' => e = .returned (.tuple #[.string NM, .string RS]) ∧ Below w.heap.size w w'))
    (NU : Hid (∀ w : World, Calls Tryz.prog 125 #[.string RS] w fun e w' => e = .returned (.int .i64 n) ∧ Below w.heap.size w w'))
    (w : World) :
    Calls Tryz.prog 122 #[.string s] w fun e w' => e = .returned (.iface 216 (.agg #[.int .i64 n])) ∧ Below w.heap.size w w' := by
  subst h0
  go_enter Tryz.func122, Tryz.ntmps122
  go_wp2_with fail
  refine (CU.out _).mono ?_
  rintro e w1 ⟨rfl, hb⟩
  have B1 : Hid (BelS w w1) := hb
  clear hb
  go_wp2_with fail
  refine (NU.out _).mono ?_
  rintro e w2 ⟨rfl, hb⟩
  have B2 : Hid (BelS w w2) := B1.out.below hb
  clear hb
  go_wp2
  go_ret
  exact ⟨rfl, B2.out⟩

set_option maxRecDepth 100000 in
set_option maxHeartbeats 4000000 in
theorem rf_ge (s NM RS : ByteArray) (d n : Int) (h0 : NM.size ≠ 0) (hr : 2 ≤ RS.size) (hr2 : RS.size ≤ maxLen)
    (CU : Hid (∀ w : World, Calls Tryz.prog 123 #[.string s, .func (.func 124) #[] #[]] w fun e w' => e = .returned (.tuple #[.string NM, .string RS]) ∧ Below w.heap.size w w'))
    (P1 : Hid (∀ w : World, Calls Tryz.prog 119 #[.string RS, .string ⟨#[62, 61]⟩] w fun e w' => e = .returned (.bool true) ∧ w' = w))
    (DY : Hid (∀ w : World, Calls Tryz.prog 126 #[.string NM] w fun e w' => e = .returned (.int .i64 d) ∧ Below w.heap.size w w'))
    (NU : Hid (∀ w : World, Calls Tryz.prog 125 #[.string (RS.extract 2 RS.size)] w fun e w' => e = .returned (.int .i64 n) ∧ Below w.heap.size w w'))
    (w : World) :
    Calls Tryz.prog 122 #[.string s] w fun e w' => e = .returned (.iface 218 (.agg #[.int .i64 d, .int .i64 n, .bool false])) ∧ Below w.heap.size w w' := by
  obtain ⟨h1, h2⟩ := Wrd.toList_ne h0
  have hr' : (2 : Int) ≤ (RS.size : Int) := by omega
  go_enter Tryz.func122, Tryz.ntmps122
  go_wp2_with fail
  refine (CU.out _).mono ?_
  rintro e w1 ⟨rfl, hb⟩
  have B1 : Hid (BelS w w1) := hb
  clear hb
  go_wp2_with fail
  refine (P1.out _).mono ?_
  rintro e v2 ⟨rfl, rfl⟩
  go_wp2_with fail
  refine wp_region_held_drew (S := BelS w) (by kernel_rfl) B1.out.drew (fun hHeld => ?_)
  refine wpAnyH_take (i := 0) (v := ?_) (oi := { dst := some 20, op := _, type := _, pos := _, after := _, guard := none }) rfl (by kernel_rfl) (by kernel_rfl) (by kernel_rfl) (fun _ _ _ h => h) (Or.inl ⟨by kernel_rfl, ?_⟩) (by assumption) ?_
  case refine_2 => (intro w9 hSw; clear hSw; go_simp; try with_reducible rfl)
  simp only [Act.put, List.setIfInBounds_toArray, List.set_cons_zero, List.set_cons_succ]
  refine wpAnyH_take (i := 2) (v := ?_) (oi := { dst := some 22, op := _, type := _, pos := _, after := _, guard := none }) rfl (by kernel_rfl) (by kernel_rfl) (by kernel_rfl) (fun _ _ _ h => h) (Or.inl ⟨by kernel_rfl, ?_⟩) (by assumption) ?_
  case refine_2 => (intro w9 hSw; clear hSw; go_simp; try with_reducible rfl)
  simp only [Act.put, List.setIfInBounds_toArray, List.set_cons_zero, List.set_cons_succ]
  refine wpAnyH_take (i := 3) (v := ?_) (oi := { dst := some 23, op := _, type := _, pos := _, after := _, guard := none }) rfl (by kernel_rfl) (by kernel_rfl) (by kernel_rfl) (fun _ _ _ h => h) (Or.inl ⟨by kernel_rfl, ?_⟩) (by assumption) ?_
  case refine_2 => (intro w9 hSw; clear hSw; go_simp; try with_reducible rfl)
  simp only [Act.put, List.setIfInBounds_toArray, List.set_cons_zero, List.set_cons_succ]
  refine wpAnyH_ready (rs := [1]) (by kernel_rfl) (by simp) (AllReadyH.cons (o := { dst := some 21, op := _, type := _, pos := _, after := _, guard := none }) rfl (fun K hK => ?_) AllReadyH.nil)
  go_simp
  refine (DY.out _).mono ?_
  rintro e v1 ⟨rfl, hb1⟩
  refine hK.out _ _ (hHeld.below hb1) (fun hHeld => ?_)
  clear hK K hb1
  refine wpAnyH_ready (rs := [4]) (by kernel_rfl) (by simp) (AllReadyH.cons (o := { dst := some 24, op := _, type := _, pos := _, after := _, guard := none }) rfl (fun K hK => ?_) AllReadyH.nil)
  go_simp
  refine (NU.out _).mono ?_
  rintro e v2 ⟨rfl, hb2⟩
  refine hK.out _ _ (hHeld.below hb2) (fun hHeld => ?_)
  clear hK K hb2
  refine wpAnyH_take (i := 5) (v := ?_) (oi := { dst := some 25, op := _, type := _, pos := _, after := _, guard := none }) rfl (by kernel_rfl) (by kernel_rfl) (by kernel_rfl) (fun _ _ _ h => h) (Or.inl ⟨by kernel_rfl, ?_⟩) (by assumption) ?_
  case refine_2 => (intro w9 hSw; clear hSw; go_simp; try with_reducible rfl)
  simp only [Act.put, List.setIfInBounds_toArray, List.set_cons_zero, List.set_cons_succ]
  refine wpAnyH_take (i := 6) (v := ?_) (oi := { dst := some 26, op := _, type := _, pos := _, after := _, guard := none }) rfl (by kernel_rfl) (by kernel_rfl) (by kernel_rfl) (fun _ _ _ h => h) (Or.inl ⟨by kernel_rfl, ?_⟩) (by assumption) ?_
  case refine_2 => (intro w9 hSw; clear hSw; go_simp; try with_reducible rfl)
  simp only [Act.put, List.setIfInBounds_toArray, List.set_cons_zero, List.set_cons_succ]
  refine wpAnyH_take (i := 7) (v := ?_) (oi := { dst := some 2, op := _, type := _, pos := _, after := _, guard := none }) rfl (by kernel_rfl) (by kernel_rfl) (by kernel_rfl) (fun _ _ _ h => h) (Or.inl ⟨by kernel_rfl, ?_⟩) (by assumption) ?_
  case refine_2 => (intro w9 hSw; clear hSw; go_simp; try with_reducible rfl)
  simp only [Act.put, List.setIfInBounds_toArray, List.set_cons_zero, List.set_cons_succ]
  refine wpAnyH_done (by kernel_rfl) ?_ _
  have B3 : Hid (BelS w _) := hHeld
  clear hHeld
  go_wp2
  go_ret
  exact ⟨rfl, B3.out⟩

set_option maxRecDepth 100000 in
set_option maxHeartbeats 4000000 in
theorem rf_le (s NM RS : ByteArray) (d n : Int) (h0 : NM.size ≠ 0) (hr : 2 ≤ RS.size) (hr2 : RS.size ≤ maxLen)
    (CU : Hid (∀ w : World, Calls Tryz.prog 123 #[.string s, .func (.func 124) #[] #[]] w fun e w' => e = .returned (.tuple #[.string NM, .string RS]) ∧ Below w.heap.size w w'))
    (P1 : Hid (∀ w : World, Calls Tryz.prog 119 #[.string RS, .string ⟨#[62, 61]⟩] w fun e w' => e = .returned (.bool false) ∧ w' = w))
    (P2 : Hid (∀ w : World, Calls Tryz.prog 119 #[.string RS, .string ⟨#[60, 61]⟩] w fun e w' => e = .returned (.bool true) ∧ w' = w))
    (DY : Hid (∀ w : World, Calls Tryz.prog 126 #[.string NM] w fun e w' => e = .returned (.int .i64 d) ∧ Below w.heap.size w w'))
    (NU : Hid (∀ w : World, Calls Tryz.prog 125 #[.string (RS.extract 2 RS.size)] w fun e w' => e = .returned (.int .i64 n) ∧ Below w.heap.size w w'))
    (w : World) :
    Calls Tryz.prog 122 #[.string s] w fun e w' => e = .returned (.iface 218 (.agg #[.int .i64 d, .int .i64 n, .bool true])) ∧ Below w.heap.size w w' := by
  obtain ⟨h1, h2⟩ := Wrd.toList_ne h0
  have hr' : (2 : Int) ≤ (RS.size : Int) := by omega
  go_enter Tryz.func122, Tryz.ntmps122
  go_wp2_with fail
  refine (CU.out _).mono ?_
  rintro e w1 ⟨rfl, hb⟩
  have B1 : Hid (BelS w w1) := hb
  clear hb
  go_wp2_with fail
  refine (P1.out _).mono ?_
  rintro e v2 ⟨rfl, rfl⟩
  go_wp2_with fail
  refine (P2.out _).mono ?_
  rintro e v3 ⟨rfl, rfl⟩
  go_wp2_with fail
  refine wp_region_held_drew (S := BelS w) (by kernel_rfl) B1.out.drew (fun hHeld => ?_)
  refine wpAnyH_take (i := 0) (v := ?_) (oi := { dst := some 30, op := _, type := _, pos := _, after := _, guard := none }) rfl (by kernel_rfl) (by kernel_rfl) (by kernel_rfl) (fun _ _ _ h => h) (Or.inl ⟨by kernel_rfl, ?_⟩) (by assumption) ?_
  case refine_2 => (intro w9 hSw; clear hSw; go_simp; try with_reducible rfl)
  simp only [Act.put, List.setIfInBounds_toArray, List.set_cons_zero, List.set_cons_succ]
  refine wpAnyH_take (i := 2) (v := ?_) (oi := { dst := some 32, op := _, type := _, pos := _, after := _, guard := none }) rfl (by kernel_rfl) (by kernel_rfl) (by kernel_rfl) (fun _ _ _ h => h) (Or.inl ⟨by kernel_rfl, ?_⟩) (by assumption) ?_
  case refine_2 => (intro w9 hSw; clear hSw; go_simp; try with_reducible rfl)
  simp only [Act.put, List.setIfInBounds_toArray, List.set_cons_zero, List.set_cons_succ]
  refine wpAnyH_take (i := 3) (v := ?_) (oi := { dst := some 33, op := _, type := _, pos := _, after := _, guard := none }) rfl (by kernel_rfl) (by kernel_rfl) (by kernel_rfl) (fun _ _ _ h => h) (Or.inl ⟨by kernel_rfl, ?_⟩) (by assumption) ?_
  case refine_2 => (intro w9 hSw; clear hSw; go_simp; try with_reducible rfl)
  simp only [Act.put, List.setIfInBounds_toArray, List.set_cons_zero, List.set_cons_succ]
  refine wpAnyH_ready (rs := [1]) (by kernel_rfl) (by simp) (AllReadyH.cons (o := { dst := some 31, op := _, type := _, pos := _, after := _, guard := none }) rfl (fun K hK => ?_) AllReadyH.nil)
  go_simp
  refine (DY.out _).mono ?_
  rintro e v1 ⟨rfl, hb1⟩
  refine hK.out _ _ (hHeld.below hb1) (fun hHeld => ?_)
  clear hK K hb1
  refine wpAnyH_ready (rs := [4]) (by kernel_rfl) (by simp) (AllReadyH.cons (o := { dst := some 34, op := _, type := _, pos := _, after := _, guard := none }) rfl (fun K hK => ?_) AllReadyH.nil)
  go_simp
  refine (NU.out _).mono ?_
  rintro e v2 ⟨rfl, hb2⟩
  refine hK.out _ _ (hHeld.below hb2) (fun hHeld => ?_)
  clear hK K hb2
  refine wpAnyH_take (i := 5) (v := ?_) (oi := { dst := some 35, op := _, type := _, pos := _, after := _, guard := none }) rfl (by kernel_rfl) (by kernel_rfl) (by kernel_rfl) (fun _ _ _ h => h) (Or.inl ⟨by kernel_rfl, ?_⟩) (by assumption) ?_
  case refine_2 => (intro w9 hSw; clear hSw; go_simp; try with_reducible rfl)
  simp only [Act.put, List.setIfInBounds_toArray, List.set_cons_zero, List.set_cons_succ]
  refine wpAnyH_take (i := 6) (v := ?_) (oi := { dst := some 36, op := _, type := _, pos := _, after := _, guard := none }) rfl (by kernel_rfl) (by kernel_rfl) (by kernel_rfl) (fun _ _ _ h => h) (Or.inl ⟨by kernel_rfl, ?_⟩) (by assumption) ?_
  case refine_2 => (intro w9 hSw; clear hSw; go_simp; try with_reducible rfl)
  simp only [Act.put, List.setIfInBounds_toArray, List.set_cons_zero, List.set_cons_succ]
  refine wpAnyH_take (i := 7) (v := ?_) (oi := { dst := some 2, op := _, type := _, pos := _, after := _, guard := none }) rfl (by kernel_rfl) (by kernel_rfl) (by kernel_rfl) (fun _ _ _ h => h) (Or.inl ⟨by kernel_rfl, ?_⟩) (by assumption) ?_
  case refine_2 => (intro w9 hSw; clear hSw; go_simp; try with_reducible rfl)
  simp only [Act.put, List.setIfInBounds_toArray, List.set_cons_zero, List.set_cons_succ]
  refine wpAnyH_done (by kernel_rfl) ?_ _
  have B3 : Hid (BelS w _) := hHeld
  clear hHeld
  go_wp2
  go_ret
  exact ⟨rfl, B3.out⟩

set_option maxRecDepth 100000 in
set_option maxHeartbeats 4000000 in
theorem rf_fin (s NM RS : ByteArray) (d : Int) (h0 : NM.size ≠ 0) (hr : RS = ⟨#[]⟩) (hn : 4 < NM.size) (hn2 : NM.size ≤ maxLen)
    (CU : Hid (∀ w : World, Calls Tryz.prog 123 #[.string s, .func (.func 124) #[] #[]] w fun e w' => e = .returned (.tuple #[.string NM, .string RS]) ∧ Below w.heap.size w w'))
    (P1 : Hid (∀ w : World, Calls Tryz.prog 119 #[.string RS, .string ⟨#[62, 61]⟩] w fun e w' => e = .returned (.bool false) ∧ w' = w))
    (P2 : Hid (∀ w : World, Calls Tryz.prog 119 #[.string RS, .string ⟨#[60, 61]⟩] w fun e w' => e = .returned (.bool false) ∧ w' = w))
    (SA : Hid (∀ w : World, Calls Tryz.prog 47 #[.string (NM.extract 0 4), .string ⟨#[108, 97, 115, 116]⟩] w fun e w' => e = .returned (.bool true) ∧ Below w.heap.size w w'))
    (DY : Hid (∀ w : World, Calls Tryz.prog 126 #[.string (NM.extract 4 NM.size)] w fun e w' => e = .returned (.int .i64 d) ∧ Below w.heap.size w w'))
    (w : World) :
    Calls Tryz.prog 122 #[.string s] w fun e w' => e = .returned (.iface 220 (.agg #[.int .i64 d])) ∧ Below w.heap.size w w' := by
  obtain ⟨h1, h2⟩ := Wrd.toList_ne h0
  subst hr
  have hn' : (4 : Int) < (NM.size : Int) := by omega
  go_enter Tryz.func122, Tryz.ntmps122
  go_wp2_with fail
  refine (CU.out _).mono ?_
  rintro e w1 ⟨rfl, hb⟩
  have B1 : Hid (BelS w w1) := hb
  clear hb
  go_wp2_with fail
  refine (P1.out _).mono ?_
  rintro e v2 ⟨rfl, rfl⟩
  go_wp2_with fail
  refine (P2.out _).mono ?_
  rintro e v3 ⟨rfl, rfl⟩
  go_wp2_with fail
  refine (SA.out _).mono ?_
  rintro e w2 ⟨rfl, hb⟩
  have B2 : Hid (BelS w w2) := B1.out.below hb
  clear hb
  go_wp2_with fail
  refine (DY.out _).mono ?_
  rintro e w3 ⟨rfl, hb⟩
  have B3 : Hid (BelS w w3) := B2.out.below hb
  clear hb
  go_wp2
  go_ret
  exact ⟨rfl, B3.out⟩

set_option maxRecDepth 100000 in
set_option maxHeartbeats 4000000 in
theorem rf_x1 (s NM RS : ByteArray) (h0 : NM.size ≠ 0) (hr : RS.size ≠ 0)
    (CU : Hid (∀ w : World, Calls Tryz.prog 123 #[.string s, .func (.func 124) #[] #[]] w fun e w' => e = .returned (.tuple #[.string NM, .string RS]) ∧ Below w.heap.size w w'))
    (P1 : Hid (∀ w : World, Calls Tryz.prog 119 #[.string RS, .string ⟨#[62, 61]⟩] w fun e w' => e = .returned (.bool false) ∧ w' = w))
    (P2 : Hid (∀ w : World, Calls Tryz.prog 119 #[.string RS, .string ⟨#[60, 61]⟩] w fun e w' => e = .returned (.bool false) ∧ w' = w))
    (w : World) :
    Calls Tryz.prog 122 #[.string s] w fun e w' => e = .returned (.nilIface) ∧ Below w.heap.size w w' := by
  obtain ⟨h1, h2⟩ := Wrd.toList_ne h0
  obtain ⟨r1, r2⟩ := Wrd.toList_ne hr
  go_enter Tryz.func122, Tryz.ntmps122
  go_wp2_with fail
  refine (CU.out _).mono ?_
  rintro e w1 ⟨rfl, hb⟩
  have B1 : Hid (BelS w w1) := hb
  clear hb
  go_wp2_with fail
  refine (P1.out _).mono ?_
  rintro e v2 ⟨rfl, rfl⟩
  go_wp2_with fail
  refine (P2.out _).mono ?_
  rintro e v3 ⟨rfl, rfl⟩
  go_wp2
  go_ret
  exact ⟨rfl, B1.out⟩

set_option maxRecDepth 100000 in
set_option maxHeartbeats 4000000 in
theorem rf_x2 (s NM RS : ByteArray) (h0 : NM.size ≠ 0) (hr : RS = ⟨#[]⟩) (hn : NM.size ≤ 4)
    (CU : Hid (∀ w : World, Calls Tryz.prog 123 #[.string s, .func (.func 124) #[] #[]] w fun e w' => e = .returned (.tuple #[.string NM, .string RS]) ∧ Below w.heap.size w w'))
    (P1 : Hid (∀ w : World, Calls Tryz.prog 119 #[.string RS, .string ⟨#[62, 61]⟩] w fun e w' => e = .returned (.bool false) ∧ w' = w))
    (P2 : Hid (∀ w : World, Calls Tryz.prog 119 #[.string RS, .string ⟨#[60, 61]⟩] w fun e w' => e = .returned (.bool false) ∧ w' = w))
    (w : World) :
    Calls Tryz.prog 122 #[.string s] w fun e w' => e = .returned (.nilIface) ∧ Below w.heap.size w w' := by
  obtain ⟨h1, h2⟩ := Wrd.toList_ne h0
  subst hr
  have hn' : ¬ (4 : Int) < (NM.size : Int) := by omega
  go_enter Tryz.func122, Tryz.ntmps122
  go_wp2_with fail
  refine (CU.out _).mono ?_
  rintro e w1 ⟨rfl, hb⟩
  have B1 : Hid (BelS w w1) := hb
  clear hb
  go_wp2_with fail
  refine (P1.out _).mono ?_
  rintro e v2 ⟨rfl, rfl⟩
  go_wp2_with fail
  refine (P2.out _).mono ?_
  rintro e v3 ⟨rfl, rfl⟩
  go_wp2
  go_ret
  exact ⟨rfl, B1.out⟩

set_option maxRecDepth 100000 in
set_option maxHeartbeats 4000000 in
theorem rf_x3 (s NM RS : ByteArray) (h0 : NM.size ≠ 0) (hr : RS = ⟨#[]⟩) (hn : 4 < NM.size) (hn2 : NM.size ≤ maxLen)
    (CU : Hid (∀ w : World, Calls Tryz.prog 123 #[.string s, .func (.func 124) #[] #[]] w fun e w' => e = .returned (.tuple #[.string NM, .string RS]) ∧ Below w.heap.size w w'))
    (P1 : Hid (∀ w : World, Calls Tryz.prog 119 #[.string RS, .string ⟨#[62, 61]⟩] w fun e w' => e = .returned (.bool false) ∧ w' = w))
    (P2 : Hid (∀ w : World, Calls Tryz.prog 119 #[.string RS, .string ⟨#[60, 61]⟩] w fun e w' => e = .returned (.bool false) ∧ w' = w))
    (SA : Hid (∀ w : World, Calls Tryz.prog 47 #[.string (NM.extract 0 4), .string ⟨#[108, 97, 115, 116]⟩] w fun e w' => e = .returned (.bool false) ∧ Below w.heap.size w w'))
    (w : World) :
    Calls Tryz.prog 122 #[.string s] w fun e w' => e = .returned (.nilIface) ∧ Below w.heap.size w w' := by
  obtain ⟨h1, h2⟩ := Wrd.toList_ne h0
  subst hr
  have hn' : (4 : Int) < (NM.size : Int) := by omega
  go_enter Tryz.func122, Tryz.ntmps122
  go_wp2_with fail
  refine (CU.out _).mono ?_
  rintro e w1 ⟨rfl, hb⟩
  have B1 : Hid (BelS w w1) := hb
  clear hb
  go_wp2_with fail
  refine (P1.out _).mono ?_
  rintro e v2 ⟨rfl, rfl⟩
  go_wp2_with fail
  refine (P2.out _).mono ?_
  rintro e v3 ⟨rfl, rfl⟩
  go_wp2_with fail
  refine (SA.out _).mono ?_
  rintro e w2 ⟨rfl, hb⟩
  have B2 : Hid (BelS w w2) := B1.out.below hb
  clear hb
  go_wp2
  go_ret
  exact ⟨rfl, B2.out⟩

end Go.Proofs.YthhpdjjfbfkgiaaGreatDoor
/- Contracts: when.ReadOn, whole. -/
namespace Go.Proofs.YthhpdjjfbfkgiaaGreatDoor
open Go.RowKit
set_option linter.unusedVariables false

/-- the block of a result of three numbers, not yet written. -/
def ResB (w : World) (b : Nat) (W : World) : Prop :=
  b < W.heap.size ∧ W.cell? ⟨b, 0, none⟩ = some (.int .i64 0) ∧ W.cell? ⟨b, 1, none⟩ = some (.int .i64 0) ∧ W.cell? ⟨b, 2, none⟩ = some (.int .i64 0) ∧ W.frozen? ⟨b, 0, none⟩ = false ∧ W.frozen? ⟨b, 1, none⟩ = false ∧ W.frozen? ⟨b, 2, none⟩ = false ∧ Below w.heap.size w W
theorem ResB.below {w W W1 : World} {b : Nat} (h : ResB w b W) (hb : Below W.heap.size W W1) : ResB w b W1 :=
  ⟨Nat.lt_of_lt_of_le h.1 hb.size, (hb.cell (p := ⟨b, 0, none⟩) h.1).trans h.2.1, (hb.cell (p := ⟨b, 1, none⟩) h.1).trans h.2.2.1, (hb.cell (p := ⟨b, 2, none⟩) h.1).trans h.2.2.2.1, (hb.frozen (p := ⟨b, 0, none⟩) h.1).trans h.2.2.2.2.1, (hb.frozen (p := ⟨b, 1, none⟩) h.1).trans h.2.2.2.2.2.1, (hb.frozen (p := ⟨b, 2, none⟩) h.1).trans h.2.2.2.2.2.2.1, h.2.2.2.2.2.2.2.trans (hb.mono h.2.2.2.2.2.2.2.size)⟩
theorem ResB.new (w : World) (t : TypeId) : ResB w w.heap.size (w.alloc (.cells #[.int .i64 0, .int .i64 0, .int .i64 0] t)) :=
  ⟨by simp, by rw [World.cell?_alloc_at _ _ _ _ rfl]; rfl, by rw [World.cell?_alloc_at _ _ _ _ rfl]; rfl, by rw [World.cell?_alloc_at _ _ _ _ rfl]; rfl, by rw [World.frozen?_alloc_at _ _ _ _ rfl], by rw [World.frozen?_alloc_at _ _ _ _ rfl], by rw [World.frozen?_alloc_at _ _ _ _ rfl], (Below.refl _ _).alloc (Nat.le_refl _) _⟩
theorem adr_ne {b i j : Nat} (h : i ≠ j) : (⟨b, i, none⟩ : Addr) ≠ ⟨b, j, none⟩ := fun e => h (by cases e; rfl)
/-- what stands there, written. -/
theorem three_set {W : World} {b : Nat} {a c e x y z : Value} (h0 : W.cell? ⟨b, 0, none⟩ = some a) (h1 : W.cell? ⟨b, 1, none⟩ = some c) (h2 : W.cell? ⟨b, 2, none⟩ = some e) :
    (((W.setCell ⟨b, 0, none⟩ x).setCell ⟨b, 1, none⟩ y).setCell ⟨b, 2, none⟩ z).cell? ⟨b, 0, none⟩ = some x ∧ (((W.setCell ⟨b, 0, none⟩ x).setCell ⟨b, 1, none⟩ y).setCell ⟨b, 2, none⟩ z).cell? ⟨b, 1, none⟩ = some y ∧ (((W.setCell ⟨b, 0, none⟩ x).setCell ⟨b, 1, none⟩ y).setCell ⟨b, 2, none⟩ z).cell? ⟨b, 2, none⟩ = some z := by
  have k1 : (W.setCell ⟨b, 0, none⟩ x).cell? ⟨b, 1, none⟩ = some c := (World.cell?_setCell_other _ _ _ _ (adr_ne (by decide))).trans h1
  have k2 : ((W.setCell ⟨b, 0, none⟩ x).setCell ⟨b, 1, none⟩ y).cell? ⟨b, 2, none⟩ = some e := (World.cell?_setCell_other _ _ _ _ (adr_ne (by decide))).trans ((World.cell?_setCell_other _ _ _ _ (adr_ne (by decide))).trans h2)
  exact ⟨(World.cell?_setCell_other _ _ _ _ (adr_ne (by decide))).trans ((World.cell?_setCell_other _ _ _ _ (adr_ne (by decide))).trans (World.cell?_setCell_same _ _ _ h0)), (World.cell?_setCell_other _ _ _ _ (adr_ne (by decide))).trans (World.cell?_setCell_same _ _ _ k1), World.cell?_setCell_same _ _ _ k2⟩

set_option maxRecDepth 100000 in
set_option maxHeartbeats 4000000 in
theorem ron_nil (s : ByteArray) 
    (RF : Hid (∀ w : World, Calls Tryz.prog 122 #[.string s] w fun e w' => e = .returned (.nilIface) ∧ Below w.heap.size w w')) (w : World) :
    Calls Tryz.prog 121 #[.string s] w fun e w' => e = .returned (.tuple #[.agg #[.int .i64 0, .int .i64 0, .int .i64 0], .int .i64 21]) ∧ Below w.heap.size w w' := by
  have S0 : Hid (ResB w w.heap.size (w.alloc (.cells #[.int .i64 0, .int .i64 0, .int .i64 0] 60))) := ResB.new w _
  go_enter Tryz.func121, Tryz.ntmps121
  go_wp2_with fail
  refine (RF.out _).mono ?_
  rintro e w1 ⟨rfl, hb⟩
  have S1 : Hid (ResB w w.heap.size w1) := S0.out.below hb
  clear hb S0
  obtain ⟨q1, q2, q3, q4, q5, q6, q7, q8⟩ := S1.out
  obtain ⟨y1, y2, y3⟩ := three_set (x := .int .i64 0) (y := .int .i64 0) (z := .int .i64 0) q2 q3 q4
  have HB : Hid (Below w.heap.size w w1) := q8
  clear q8
  go_wp2
  refine bodyPost_ret (v := .tuple #[.agg #[.int .i64 0, .int .i64 0, .int .i64 0], .int .i64 21]) (by simp [results, Tryz.results121, go_sem, y1, y2, y3]) rfl ⟨rfl, ?_⟩
  exact ((HB.out.setCell (Nat.le_refl _) _).setCell (Nat.le_refl _) _).setCell (Nat.le_refl _) _

set_option maxRecDepth 100000 in
set_option maxHeartbeats 4000000 in
theorem ron_num (s : ByteArray) (n : Int) (h1 : 1 ≤ n) (h2 : n ≤ 31)
    (RF : Hid (∀ w : World, Calls Tryz.prog 122 #[.string s] w fun e w' => e = .returned (.iface 216 (.agg #[.int .i64 n])) ∧ Below w.heap.size w w')) (w : World) :
    Calls Tryz.prog 121 #[.string s] w fun e w' => e = .returned (.tuple #[.agg #[.int .i64 0, .int .i64 0, .int .i64 n], .int .i64 0]) ∧ Below w.heap.size w w' := by
  have C : Hid (∀ w : World, Calls Tryz.prog 143 #[.agg #[.int .i64 n]] w fun e w' => e = .returned (.bool true) ∧ Below w.heap.size w w') := canNum_yes n h1 h2
  have O : Hid (∀ w : World, Calls Tryz.prog 144 #[.agg #[.int .i64 n]] w fun e w' => e = .returned (.agg #[.int .i64 0, .int .i64 0, .int .i64 n]) ∧ Below w.heap.size w w') := onNum n
  have S0 : Hid (ResB w w.heap.size (w.alloc (.cells #[.int .i64 0, .int .i64 0, .int .i64 0] 60))) := ResB.new w _
  go_enter Tryz.func121, Tryz.ntmps121
  go_wp2_with fail
  refine (RF.out _).mono ?_
  rintro e w1 ⟨rfl, hb⟩
  have S1 : Hid (ResB w w.heap.size w1) := S0.out.below hb
  clear hb S0
  go_wp2_with fail
  refine (C.out _).mono ?_
  rintro e w2 ⟨rfl, hb⟩
  have S2 : Hid (ResB w w.heap.size w2) := S1.out.below hb
  clear hb S1
  go_wp2_with fail
  refine (O.out _).mono ?_
  rintro e w3 ⟨rfl, hb⟩
  have S3 : Hid (ResB w w.heap.size w3) := S2.out.below hb
  clear hb S2
  obtain ⟨q1, q2, q3, q4, q5, q6, q7, q8⟩ := S3.out
  obtain ⟨y1, y2, y3⟩ := three_set (x := .int .i64 0) (y := .int .i64 0) (z := .int .i64 n) q2 q3 q4
  have HB : Hid (Below w.heap.size w w3) := q8
  clear q8
  go_wp2
  refine bodyPost_ret (v := .tuple #[.agg #[.int .i64 0, .int .i64 0, .int .i64 n], .int .i64 0]) (by simp [results, Tryz.results121, go_sem, y1, y2, y3]) rfl ⟨rfl, ?_⟩
  exact ((HB.out.setCell (Nat.le_refl _) _).setCell (Nat.le_refl _) _).setCell (Nat.le_refl _) _

set_option maxRecDepth 100000 in
set_option maxHeartbeats 4000000 in
theorem ron_num_n (s : ByteArray) (n : Int) (h : n < 1 ∨ 31 < n)
    (RF : Hid (∀ w : World, Calls Tryz.prog 122 #[.string s] w fun e w' => e = .returned (.iface 216 (.agg #[.int .i64 n])) ∧ Below w.heap.size w w')) (w : World) :
    Calls Tryz.prog 121 #[.string s] w fun e w' => e = .returned (.tuple #[.agg #[.int .i64 0, .int .i64 0, .int .i64 0], .int .i64 21]) ∧ Below w.heap.size w w' := by
  have C : Hid (∀ w : World, Calls Tryz.prog 143 #[.agg #[.int .i64 n]] w fun e w' => e = .returned (.bool false) ∧ Below w.heap.size w w') := canNum_no n h
  have S0 : Hid (ResB w w.heap.size (w.alloc (.cells #[.int .i64 0, .int .i64 0, .int .i64 0] 60))) := ResB.new w _
  go_enter Tryz.func121, Tryz.ntmps121
  go_wp2_with fail
  refine (RF.out _).mono ?_
  rintro e w1 ⟨rfl, hb⟩
  have S1 : Hid (ResB w w.heap.size w1) := S0.out.below hb
  clear hb S0
  go_wp2_with fail
  refine (C.out _).mono ?_
  rintro e w2 ⟨rfl, hb⟩
  have S2 : Hid (ResB w w.heap.size w2) := S1.out.below hb
  clear hb S1
  obtain ⟨q1, q2, q3, q4, q5, q6, q7, q8⟩ := S2.out
  obtain ⟨y1, y2, y3⟩ := three_set (x := .int .i64 0) (y := .int .i64 0) (z := .int .i64 0) q2 q3 q4
  have HB : Hid (Below w.heap.size w w2) := q8
  clear q8
  go_wp2
  refine bodyPost_ret (v := .tuple #[.agg #[.int .i64 0, .int .i64 0, .int .i64 0], .int .i64 21]) (by simp [results, Tryz.results121, go_sem, y1, y2, y3]) rfl ⟨rfl, ?_⟩
  exact ((HB.out.setCell (Nat.le_refl _) _).setCell (Nat.le_refl _) _).setCell (Nat.le_refl _) _

set_option maxRecDepth 100000 in
set_option maxHeartbeats 4000000 in
theorem ron_fin (s : ByteArray) (d : Int) (h1 : 0 ≤ d) (h2 : d ≤ 6)
    (RF : Hid (∀ w : World, Calls Tryz.prog 122 #[.string s] w fun e w' => e = .returned (.iface 220 (.agg #[.int .i64 d])) ∧ Below w.heap.size w w')) (w : World) :
    Calls Tryz.prog 121 #[.string s] w fun e w' => e = .returned (.tuple #[.agg #[.int .i64 1, .int .i64 d, .int .i64 0], .int .i64 0]) ∧ Below w.heap.size w w' := by
  have C : Hid (∀ w : World, Calls Tryz.prog 149 #[.agg #[.int .i64 d]] w fun e w' => e = .returned (.bool true) ∧ Below w.heap.size w w') := canFin_yes d h1 h2
  have O : Hid (∀ w : World, Calls Tryz.prog 150 #[.agg #[.int .i64 d]] w fun e w' => e = .returned (.agg #[.int .i64 1, .int .i64 d, .int .i64 0]) ∧ Below w.heap.size w w') := onFin d
  have S0 : Hid (ResB w w.heap.size (w.alloc (.cells #[.int .i64 0, .int .i64 0, .int .i64 0] 60))) := ResB.new w _
  go_enter Tryz.func121, Tryz.ntmps121
  go_wp2_with fail
  refine (RF.out _).mono ?_
  rintro e w1 ⟨rfl, hb⟩
  have S1 : Hid (ResB w w.heap.size w1) := S0.out.below hb
  clear hb S0
  go_wp2_with fail
  refine (C.out _).mono ?_
  rintro e w2 ⟨rfl, hb⟩
  have S2 : Hid (ResB w w.heap.size w2) := S1.out.below hb
  clear hb S1
  go_wp2_with fail
  refine (O.out _).mono ?_
  rintro e w3 ⟨rfl, hb⟩
  have S3 : Hid (ResB w w.heap.size w3) := S2.out.below hb
  clear hb S2
  obtain ⟨q1, q2, q3, q4, q5, q6, q7, q8⟩ := S3.out
  obtain ⟨y1, y2, y3⟩ := three_set (x := .int .i64 1) (y := .int .i64 d) (z := .int .i64 0) q2 q3 q4
  have HB : Hid (Below w.heap.size w w3) := q8
  clear q8
  go_wp2
  refine bodyPost_ret (v := .tuple #[.agg #[.int .i64 1, .int .i64 d, .int .i64 0], .int .i64 0]) (by simp [results, Tryz.results121, go_sem, y1, y2, y3]) rfl ⟨rfl, ?_⟩
  exact ((HB.out.setCell (Nat.le_refl _) _).setCell (Nat.le_refl _) _).setCell (Nat.le_refl _) _

set_option maxRecDepth 100000 in
set_option maxHeartbeats 4000000 in
theorem ron_fin_n (s : ByteArray) (d : Int) (h : d < 0 ∨ 6 < d)
    (RF : Hid (∀ w : World, Calls Tryz.prog 122 #[.string s] w fun e w' => e = .returned (.iface 220 (.agg #[.int .i64 d])) ∧ Below w.heap.size w w')) (w : World) :
    Calls Tryz.prog 121 #[.string s] w fun e w' => e = .returned (.tuple #[.agg #[.int .i64 0, .int .i64 0, .int .i64 0], .int .i64 21]) ∧ Below w.heap.size w w' := by
  have C : Hid (∀ w : World, Calls Tryz.prog 149 #[.agg #[.int .i64 d]] w fun e w' => e = .returned (.bool false) ∧ Below w.heap.size w w') := canFin_no d h
  have S0 : Hid (ResB w w.heap.size (w.alloc (.cells #[.int .i64 0, .int .i64 0, .int .i64 0] 60))) := ResB.new w _
  go_enter Tryz.func121, Tryz.ntmps121
  go_wp2_with fail
  refine (RF.out _).mono ?_
  rintro e w1 ⟨rfl, hb⟩
  have S1 : Hid (ResB w w.heap.size w1) := S0.out.below hb
  clear hb S0
  go_wp2_with fail
  refine (C.out _).mono ?_
  rintro e w2 ⟨rfl, hb⟩
  have S2 : Hid (ResB w w.heap.size w2) := S1.out.below hb
  clear hb S1
  obtain ⟨q1, q2, q3, q4, q5, q6, q7, q8⟩ := S2.out
  obtain ⟨y1, y2, y3⟩ := three_set (x := .int .i64 0) (y := .int .i64 0) (z := .int .i64 0) q2 q3 q4
  have HB : Hid (Below w.heap.size w w2) := q8
  clear q8
  go_wp2
  refine bodyPost_ret (v := .tuple #[.agg #[.int .i64 0, .int .i64 0, .int .i64 0], .int .i64 21]) (by simp [results, Tryz.results121, go_sem, y1, y2, y3]) rfl ⟨rfl, ?_⟩
  exact ((HB.out.setCell (Nat.le_refl _) _).setCell (Nat.le_refl _) _).setCell (Nat.le_refl _) _

set_option maxRecDepth 100000 in
set_option maxHeartbeats 4000000 in
theorem ron_bes2 (s : ByteArray) (d n : Int) (h1 : 0 ≤ d) (h2 : d ≤ 6) (h3 : 1 ≤ n) (h4 : n ≤ 31)
    (RF : Hid (∀ w : World, Calls Tryz.prog 122 #[.string s] w fun e w' => e = .returned (.iface 218 (.agg #[.int .i64 d, .int .i64 n, .bool false])) ∧ Below w.heap.size w w')) (w : World) :
    Calls Tryz.prog 121 #[.string s] w fun e w' => e = .returned (.tuple #[.agg #[.int .i64 2, .int .i64 d, .int .i64 n], .int .i64 0]) ∧ Below w.heap.size w w' := by
  have C : Hid (∀ w : World, Calls Tryz.prog 146 #[.agg #[.int .i64 d, .int .i64 n, .bool false]] w fun e w' => e = .returned (.bool true) ∧ Below w.heap.size w w') := canBes_yes d n false h1 h2 h3 h4
  have O : Hid (∀ w : World, Calls Tryz.prog 147 #[.agg #[.int .i64 d, .int .i64 n, .bool false]] w fun e w' => e = .returned (.agg #[.int .i64 2, .int .i64 d, .int .i64 n]) ∧ Below w.heap.size w w') := onBesF d n
  have S0 : Hid (ResB w w.heap.size (w.alloc (.cells #[.int .i64 0, .int .i64 0, .int .i64 0] 60))) := ResB.new w _
  go_enter Tryz.func121, Tryz.ntmps121
  go_wp2_with fail
  refine (RF.out _).mono ?_
  rintro e w1 ⟨rfl, hb⟩
  have S1 : Hid (ResB w w.heap.size w1) := S0.out.below hb
  clear hb S0
  go_wp2_with fail
  refine (C.out _).mono ?_
  rintro e w2 ⟨rfl, hb⟩
  have S2 : Hid (ResB w w.heap.size w2) := S1.out.below hb
  clear hb S1
  go_wp2_with fail
  refine (O.out _).mono ?_
  rintro e w3 ⟨rfl, hb⟩
  have S3 : Hid (ResB w w.heap.size w3) := S2.out.below hb
  clear hb S2
  obtain ⟨q1, q2, q3, q4, q5, q6, q7, q8⟩ := S3.out
  obtain ⟨y1, y2, y3⟩ := three_set (x := .int .i64 2) (y := .int .i64 d) (z := .int .i64 n) q2 q3 q4
  have HB : Hid (Below w.heap.size w w3) := q8
  clear q8
  go_wp2
  refine bodyPost_ret (v := .tuple #[.agg #[.int .i64 2, .int .i64 d, .int .i64 n], .int .i64 0]) (by simp [results, Tryz.results121, go_sem, y1, y2, y3]) rfl ⟨rfl, ?_⟩
  exact ((HB.out.setCell (Nat.le_refl _) _).setCell (Nat.le_refl _) _).setCell (Nat.le_refl _) _

set_option maxRecDepth 100000 in
set_option maxHeartbeats 4000000 in
theorem ron_bes3 (s : ByteArray) (d n : Int) (h1 : 0 ≤ d) (h2 : d ≤ 6) (h3 : 1 ≤ n) (h4 : n ≤ 31)
    (RF : Hid (∀ w : World, Calls Tryz.prog 122 #[.string s] w fun e w' => e = .returned (.iface 218 (.agg #[.int .i64 d, .int .i64 n, .bool true])) ∧ Below w.heap.size w w')) (w : World) :
    Calls Tryz.prog 121 #[.string s] w fun e w' => e = .returned (.tuple #[.agg #[.int .i64 3, .int .i64 d, .int .i64 n], .int .i64 0]) ∧ Below w.heap.size w w' := by
  have C : Hid (∀ w : World, Calls Tryz.prog 146 #[.agg #[.int .i64 d, .int .i64 n, .bool true]] w fun e w' => e = .returned (.bool true) ∧ Below w.heap.size w w') := canBes_yes d n true h1 h2 h3 h4
  have O : Hid (∀ w : World, Calls Tryz.prog 147 #[.agg #[.int .i64 d, .int .i64 n, .bool true]] w fun e w' => e = .returned (.agg #[.int .i64 3, .int .i64 d, .int .i64 n]) ∧ Below w.heap.size w w') := onBesT d n
  have S0 : Hid (ResB w w.heap.size (w.alloc (.cells #[.int .i64 0, .int .i64 0, .int .i64 0] 60))) := ResB.new w _
  go_enter Tryz.func121, Tryz.ntmps121
  go_wp2_with fail
  refine (RF.out _).mono ?_
  rintro e w1 ⟨rfl, hb⟩
  have S1 : Hid (ResB w w.heap.size w1) := S0.out.below hb
  clear hb S0
  go_wp2_with fail
  refine (C.out _).mono ?_
  rintro e w2 ⟨rfl, hb⟩
  have S2 : Hid (ResB w w.heap.size w2) := S1.out.below hb
  clear hb S1
  go_wp2_with fail
  refine (O.out _).mono ?_
  rintro e w3 ⟨rfl, hb⟩
  have S3 : Hid (ResB w w.heap.size w3) := S2.out.below hb
  clear hb S2
  obtain ⟨q1, q2, q3, q4, q5, q6, q7, q8⟩ := S3.out
  obtain ⟨y1, y2, y3⟩ := three_set (x := .int .i64 3) (y := .int .i64 d) (z := .int .i64 n) q2 q3 q4
  have HB : Hid (Below w.heap.size w w3) := q8
  clear q8
  go_wp2
  refine bodyPost_ret (v := .tuple #[.agg #[.int .i64 3, .int .i64 d, .int .i64 n], .int .i64 0]) (by simp [results, Tryz.results121, go_sem, y1, y2, y3]) rfl ⟨rfl, ?_⟩
  exact ((HB.out.setCell (Nat.le_refl _) _).setCell (Nat.le_refl _) _).setCell (Nat.le_refl _) _

set_option maxRecDepth 100000 in
set_option maxHeartbeats 4000000 in
theorem ron_bes2_n (s : ByteArray) (d n : Int) (h : d < 0 ∨ 6 < d ∨ (0 ≤ d ∧ d ≤ 6 ∧ n < 1) ∨ (0 ≤ d ∧ d ≤ 6 ∧ 31 < n))
    (RF : Hid (∀ w : World, Calls Tryz.prog 122 #[.string s] w fun e w' => e = .returned (.iface 218 (.agg #[.int .i64 d, .int .i64 n, .bool false])) ∧ Below w.heap.size w w')) (w : World) :
    Calls Tryz.prog 121 #[.string s] w fun e w' => e = .returned (.tuple #[.agg #[.int .i64 0, .int .i64 0, .int .i64 0], .int .i64 21]) ∧ Below w.heap.size w w' := by
  have C : Hid (∀ w : World, Calls Tryz.prog 146 #[.agg #[.int .i64 d, .int .i64 n, .bool false]] w fun e w' => e = .returned (.bool false) ∧ Below w.heap.size w w') := canBes_no d n false h
  have S0 : Hid (ResB w w.heap.size (w.alloc (.cells #[.int .i64 0, .int .i64 0, .int .i64 0] 60))) := ResB.new w _
  go_enter Tryz.func121, Tryz.ntmps121
  go_wp2_with fail
  refine (RF.out _).mono ?_
  rintro e w1 ⟨rfl, hb⟩
  have S1 : Hid (ResB w w.heap.size w1) := S0.out.below hb
  clear hb S0
  go_wp2_with fail
  refine (C.out _).mono ?_
  rintro e w2 ⟨rfl, hb⟩
  have S2 : Hid (ResB w w.heap.size w2) := S1.out.below hb
  clear hb S1
  obtain ⟨q1, q2, q3, q4, q5, q6, q7, q8⟩ := S2.out
  obtain ⟨y1, y2, y3⟩ := three_set (x := .int .i64 0) (y := .int .i64 0) (z := .int .i64 0) q2 q3 q4
  have HB : Hid (Below w.heap.size w w2) := q8
  clear q8
  go_wp2
  refine bodyPost_ret (v := .tuple #[.agg #[.int .i64 0, .int .i64 0, .int .i64 0], .int .i64 21]) (by simp [results, Tryz.results121, go_sem, y1, y2, y3]) rfl ⟨rfl, ?_⟩
  exact ((HB.out.setCell (Nat.le_refl _) _).setCell (Nat.le_refl _) _).setCell (Nat.le_refl _) _

set_option maxRecDepth 100000 in
set_option maxHeartbeats 4000000 in
theorem ron_bes3_n (s : ByteArray) (d n : Int) (h : d < 0 ∨ 6 < d ∨ (0 ≤ d ∧ d ≤ 6 ∧ n < 1) ∨ (0 ≤ d ∧ d ≤ 6 ∧ 31 < n))
    (RF : Hid (∀ w : World, Calls Tryz.prog 122 #[.string s] w fun e w' => e = .returned (.iface 218 (.agg #[.int .i64 d, .int .i64 n, .bool true])) ∧ Below w.heap.size w w')) (w : World) :
    Calls Tryz.prog 121 #[.string s] w fun e w' => e = .returned (.tuple #[.agg #[.int .i64 0, .int .i64 0, .int .i64 0], .int .i64 21]) ∧ Below w.heap.size w w' := by
  have C : Hid (∀ w : World, Calls Tryz.prog 146 #[.agg #[.int .i64 d, .int .i64 n, .bool true]] w fun e w' => e = .returned (.bool false) ∧ Below w.heap.size w w') := canBes_no d n true h
  have S0 : Hid (ResB w w.heap.size (w.alloc (.cells #[.int .i64 0, .int .i64 0, .int .i64 0] 60))) := ResB.new w _
  go_enter Tryz.func121, Tryz.ntmps121
  go_wp2_with fail
  refine (RF.out _).mono ?_
  rintro e w1 ⟨rfl, hb⟩
  have S1 : Hid (ResB w w.heap.size w1) := S0.out.below hb
  clear hb S0
  go_wp2_with fail
  refine (C.out _).mono ?_
  rintro e w2 ⟨rfl, hb⟩
  have S2 : Hid (ResB w w.heap.size w2) := S1.out.below hb
  clear hb S1
  obtain ⟨q1, q2, q3, q4, q5, q6, q7, q8⟩ := S2.out
  obtain ⟨y1, y2, y3⟩ := three_set (x := .int .i64 0) (y := .int .i64 0) (z := .int .i64 0) q2 q3 q4
  have HB : Hid (Below w.heap.size w w2) := q8
  clear q8
  go_wp2
  refine bodyPost_ret (v := .tuple #[.agg #[.int .i64 0, .int .i64 0, .int .i64 0], .int .i64 21]) (by simp [results, Tryz.results121, go_sem, y1, y2, y3]) rfl ⟨rfl, ?_⟩
  exact ((HB.out.setCell (Nat.le_refl _) _).setCell (Nat.le_refl _) _).setCell (Nat.le_refl _) _

/-- what a form's reading comes to. -/
def roV (k d n : Int) : Value := if okOn k d n then onV k d n else onV 0 0 0
def roE (k d n : Int) : Int := if okOn k d n then 0 else 21
theorem readOn_form (s : ByteArray) (k d n : Int) (hk : (k = 0 ∧ d = 0) ∨ (k = 1 ∧ n = 0) ∨ k = 2 ∨ k = 3)
    (RF : Hid (∀ w : World, Calls Tryz.prog 122 #[.string s] w fun e w' => e = .returned (formV k d n) ∧ Below w.heap.size w w')) (w : World) :
    Calls Tryz.prog 121 #[.string s] w fun e w' => e = .returned (.tuple #[roV k d n, .int .i64 (roE k d n)]) ∧ Below w.heap.size w w' := by
  unfold roV roE
  by_cases ho : okOn k d n
  · rw [if_pos ho, if_pos ho]
    rcases ho with ⟨rfl, h1, h2, rfl⟩ | ⟨rfl, h1, h2, rfl⟩ | ⟨rfl | rfl, h1, h2, h3, h4⟩
    · exact ron_num s n h1 h2 RF w
    · exact ron_fin s d h1 h2 RF w
    · exact ron_bes2 s d n h1 h2 h3 h4 RF w
    · exact ron_bes3 s d n h1 h2 h3 h4 RF w
  · rw [if_neg ho, if_neg ho]
    unfold okOn at ho
    rcases hk with ⟨rfl, rfl⟩ | ⟨rfl, rfl⟩ | rfl | rfl
    · exact ron_num_n s n (by omega) RF w
    · exact ron_fin_n s d (by omega) RF w
    · exact ron_bes2_n s d n (by omega) RF w
    · exact ron_bes3_n s d n (by omega) RF w

end Go.Proofs.YthhpdjjfbfkgiaaGreatDoor
