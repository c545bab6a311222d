/- Contracts: when.number, when.readForm way by way, when.ReadOn. -/
import Derived.Test.YtgnfkkcagbbhmaaGreatDoorWhnEq
import Derived.Test.YtgnfkkcagbbhmaaGreatDoorWdOq
import Derived.Test.YtgnfkkcagbbhmaaGreatDoorWdBq
namespace Go.Proofs.YtgnfkkcagbbhmaaGreatDoor
open Go.RowKit
set_option linter.unusedVariables false

/-- what one or two digits tell, 0 of any other text. -/
def numN (s : ByteArray) : Int := if s.size ≤ 2 then Wrd.numV s else 0

set_option maxRecDepth 100000 in
set_option maxHeartbeats 4000000 in
theorem number_any (s : ByteArray) (V : Int) (hV : Hid (numN s = V)) (hs : s.size ≤ maxLen) (w : World) :
    Calls Tryz.prog 190 #[.string s] w fun e w' => e = .returned (.int .i64 V) ∧ Below w.heap.size w w' := by
  by_cases h : s.size ≤ 2
  · have e : Wrd.numV s = V := by have := hV.out; unfold numN at this; rwa [if_pos h] at this
    have C := Wrd.wnumber_any s V (Wrd.numE s) e rfl hs
    have HC : Hid (∀ w : World, Calls Tryz.prog 170 #[.string s] w fun e w' => e = .returned (.tuple #[.int .i64 V, .int .i64 (Wrd.numE s)]) ∧ Below w.heap.size w w') := C
    have h' : ¬ (2 : Int) < (s.size : Int) := by omega
    clear C e hV
    generalize Wrd.numE s = E at *
    go_enter Tryz.func190, Tryz.ntmps190
    go_wp2_with fail
    refine (HC.out _).mono ?_
    rintro e w1 ⟨rfl, hb⟩
    go_wp2
    go_ret
    exact ⟨rfl, hb⟩
  · have e : (0 : Int) = V := by have := hV.out; unfold numN at this; rwa [if_neg h] at this
    subst e
    have h' : (2 : Int) < (s.size : Int) := by omega
    go_enter Tryz.func190, Tryz.ntmps190
    go_wp2
    go_ret
    exact ⟨rfl, Below.refl _ _⟩

/- READFORM -/

/-- nothing below has turned. -/
def BelS (w : World) (W : World) : Prop := Below w.heap.size w W
theorem BelS.below {w W W1 : World} (h : BelS w W) (hb : Below W.heap.size W W1) : BelS w W1 := Below.trans h (hb.mono (Below.size h))
theorem BelS.drew {w W : World} (h : BelS w W) : BelS w W.drew := Below.drew h
theorem BelS.out {w W : World} (h : BelS w W) : Below w.heap.size w W := h

set_option maxRecDepth 100000 in
set_option maxHeartbeats 4000000 in
theorem rf_num (s NM RS : ByteArray) (n : Int) (h0 : NM = ⟨#[]⟩)
    (CU : Hid (∀ w : World, Calls Tryz.prog 188 #[.string s, .func (.func 189) #[] #[]] w fun e w' => e = .returned (.tuple #[.string NM, .string RS]) ∧ Below w.heap.size w w'))
    (NU : Hid (∀ w : World, Calls Tryz.prog 190 #[.string RS] w fun e w' => e = .returned (.int .i64 n) ∧ Below w.heap.size w w'))
    (w : World) :
    Calls Tryz.prog 187 #[.string s] w fun e w' => e = .returned (.iface 221 (.agg #[.int .i64 n])) ∧ Below w.heap.size w w' := by
  subst h0
  go_enter Tryz.func187, Tryz.ntmps187
  go_wp2_with fail
  refine (CU.out _).mono ?_
  rintro e w1 ⟨rfl, hb⟩
  have B1 : Hid (BelS w w1) := hb
  clear hb
  go_wp2_with fail
  refine (NU.out _).mono ?_
  rintro e w2 ⟨rfl, hb⟩
  have B2 : Hid (BelS w w2) := B1.out.below hb
  clear hb
  go_wp2
  go_ret
  exact ⟨rfl, B2.out⟩

set_option maxRecDepth 100000 in
set_option maxHeartbeats 4000000 in
theorem rf_ge (s NM RS : ByteArray) (d n : Int) (h0 : NM.size ≠ 0) (hr : 2 ≤ RS.size) (hr2 : RS.size ≤ maxLen)
    (CU : Hid (∀ w : World, Calls Tryz.prog 188 #[.string s, .func (.func 189) #[] #[]] w fun e w' => e = .returned (.tuple #[.string NM, .string RS]) ∧ Below w.heap.size w w'))
    (P1 : Hid (∀ w : World, Calls Tryz.prog 184 #[.string RS, .string ⟨#[62, 61]⟩] w fun e w' => e = .returned (.bool true) ∧ w' = w))
    (DY : Hid (∀ w : World, Calls Tryz.prog 191 #[.string NM] w fun e w' => e = .returned (.int .i64 d) ∧ Below w.heap.size w w'))
    (NU : Hid (∀ w : World, Calls Tryz.prog 190 #[.string (RS.extract 2 RS.size)] w fun e w' => e = .returned (.int .i64 n) ∧ Below w.heap.size w w'))
    (w : World) :
    Calls Tryz.prog 187 #[.string s] w fun e w' => e = .returned (.iface 225 (.agg #[.int .i64 d, .int .i64 n, .bool false])) ∧ Below w.heap.size w w' := by
  obtain ⟨h1, h2⟩ := Wrd.toList_ne h0
  have hr' : (2 : Int) ≤ (RS.size : Int) := by omega
  go_enter Tryz.func187, Tryz.ntmps187
  go_wp2_with fail
  refine (CU.out _).mono ?_
  rintro e w1 ⟨rfl, hb⟩
  have B1 : Hid (BelS w w1) := hb
  clear hb
  go_wp2_with fail
  refine (P1.out _).mono ?_
  rintro e v2 ⟨rfl, rfl⟩
  go_wp2_with fail
  refine wp_region_held_drew (S := BelS w) (by kernel_rfl) B1.out.drew (fun hHeld => ?_)
  refine wpAnyH_take (i := 0) (v := ?_) (oi := { dst := some 20, op := _, type := _, pos := _, after := _, guard := none }) rfl (by kernel_rfl) (by kernel_rfl) (by kernel_rfl) (fun _ _ _ h => h) (Or.inl ⟨by kernel_rfl, ?_⟩) (by assumption) ?_
  case refine_2 => (intro w9 hSw; clear hSw; go_simp; try with_reducible rfl)
  simp only [Act.put, List.setIfInBounds_toArray, List.set_cons_zero, List.set_cons_succ]
  refine wpAnyH_take (i := 2) (v := ?_) (oi := { dst := some 22, op := _, type := _, pos := _, after := _, guard := none }) rfl (by kernel_rfl) (by kernel_rfl) (by kernel_rfl) (fun _ _ _ h => h) (Or.inl ⟨by kernel_rfl, ?_⟩) (by assumption) ?_
  case refine_2 => (intro w9 hSw; clear hSw; go_simp; try with_reducible rfl)
  simp only [Act.put, List.setIfInBounds_toArray, List.set_cons_zero, List.set_cons_succ]
  refine wpAnyH_take (i := 3) (v := ?_) (oi := { dst := some 23, op := _, type := _, pos := _, after := _, guard := none }) rfl (by kernel_rfl) (by kernel_rfl) (by kernel_rfl) (fun _ _ _ h => h) (Or.inl ⟨by kernel_rfl, ?_⟩) (by assumption) ?_
  case refine_2 => (intro w9 hSw; clear hSw; go_simp; try with_reducible rfl)
  simp only [Act.put, List.setIfInBounds_toArray, List.set_cons_zero, List.set_cons_succ]
  refine wpAnyH_ready (rs := [1]) (by kernel_rfl) (by simp) (AllReadyH.cons (o := { dst := some 21, op := _, type := _, pos := _, after := _, guard := none }) rfl (fun K hK => ?_) AllReadyH.nil)
  go_simp
  refine (DY.out _).mono ?_
  rintro e v1 ⟨rfl, hb1⟩
  refine hK.out _ _ (hHeld.below hb1) (fun hHeld => ?_)
  clear hK K hb1
  refine wpAnyH_ready (rs := [4]) (by kernel_rfl) (by simp) (AllReadyH.cons (o := { dst := some 24, op := _, type := _, pos := _, after := _, guard := none }) rfl (fun K hK => ?_) AllReadyH.nil)
  go_simp
  refine (NU.out _).mono ?_
  rintro e v2 ⟨rfl, hb2⟩
  refine hK.out _ _ (hHeld.below hb2) (fun hHeld => ?_)
  clear hK K hb2
  refine wpAnyH_take (i := 5) (v := ?_) (oi := { dst := some 25, op := _, type := _, pos := _, after := _, guard := none }) rfl (by kernel_rfl) (by kernel_rfl) (by kernel_rfl) (fun _ _ _ h => h) (Or.inl ⟨by kernel_rfl, ?_⟩) (by assumption) ?_
  case refine_2 => (intro w9 hSw; clear hSw; go_simp; try with_reducible rfl)
  simp only [Act.put, List.setIfInBounds_toArray, List.set_cons_zero, List.set_cons_succ]
  refine wpAnyH_take (i := 6) (v := ?_) (oi := { dst := some 26, op := _, type := _, pos := _, after := _, guard := none }) rfl (by kernel_rfl) (by kernel_rfl) (by kernel_rfl) (fun _ _ _ h => h) (Or.inl ⟨by kernel_rfl, ?_⟩) (by assumption) ?_
  case refine_2 => (intro w9 hSw; clear hSw; go_simp; try with_reducible rfl)
  simp only [Act.put, List.setIfInBounds_toArray, List.set_cons_zero, List.set_cons_succ]
  refine wpAnyH_take (i := 7) (v := ?_) (oi := { dst := some 2, op := _, type := _, pos := _, after := _, guard := none }) rfl (by kernel_rfl) (by kernel_rfl) (by kernel_rfl) (fun _ _ _ h => h) (Or.inl ⟨by kernel_rfl, ?_⟩) (by assumption) ?_
  case refine_2 => (intro w9 hSw; clear hSw; go_simp; try with_reducible rfl)
  simp only [Act.put, List.setIfInBounds_toArray, List.set_cons_zero, List.set_cons_succ]
  refine wpAnyH_done (by kernel_rfl) ?_ _
  have B3 : Hid (BelS w _) := hHeld
  clear hHeld
  go_wp2
  go_ret
  exact ⟨rfl, B3.out⟩

set_option maxRecDepth 100000 in
set_option maxHeartbeats 4000000 in
theorem rf_le (s NM RS : ByteArray) (d n : Int) (h0 : NM.size ≠ 0) (hr : 2 ≤ RS.size) (hr2 : RS.size ≤ maxLen)
    (CU : Hid (∀ w : World, Calls Tryz.prog 188 #[.string s, .func (.func 189) #[] #[]] w fun e w' => e = .returned (.tuple #[.string NM, .string RS]) ∧ Below w.heap.size w w'))
    (P1 : Hid (∀ w : World, Calls Tryz.prog 184 #[.string RS, .string ⟨#[62, 61]⟩] w fun e w' => e = .returned (.bool false) ∧ w' = w))
    (P2 : Hid (∀ w : World, Calls Tryz.prog 184 #[.string RS, .string ⟨#[60, 61]⟩] w fun e w' => e = .returned (.bool true) ∧ w' = w))
    (DY : Hid (∀ w : World, Calls Tryz.prog 191 #[.string NM] w fun e w' => e = .returned (.int .i64 d) ∧ Below w.heap.size w w'))
    (NU : Hid (∀ w : World, Calls Tryz.prog 190 #[.string (RS.extract 2 RS.size)] w fun e w' => e = .returned (.int .i64 n) ∧ Below w.heap.size w w'))
    (w : World) :
    Calls Tryz.prog 187 #[.string s] w fun e w' => e = .returned (.iface 225 (.agg #[.int .i64 d, .int .i64 n, .bool true])) ∧ Below w.heap.size w w' := by
  obtain ⟨h1, h2⟩ := Wrd.toList_ne h0
  have hr' : (2 : Int) ≤ (RS.size : Int) := by omega
  go_enter Tryz.func187, Tryz.ntmps187
  go_wp2_with fail
  refine (CU.out _).mono ?_
  rintro e w1 ⟨rfl, hb⟩
  have B1 : Hid (BelS w w1) := hb
  clear hb
  go_wp2_with fail
  refine (P1.out _).mono ?_
  rintro e v2 ⟨rfl, rfl⟩
  go_wp2_with fail
  refine (P2.out _).mono ?_
  rintro e v3 ⟨rfl, rfl⟩
  go_wp2_with fail
  refine wp_region_held_drew (S := BelS w) (by kernel_rfl) B1.out.drew (fun hHeld => ?_)
  refine wpAnyH_take (i := 0) (v := ?_) (oi := { dst := some 30, op := _, type := _, pos := _, after := _, guard := none }) rfl (by kernel_rfl) (by kernel_rfl) (by kernel_rfl) (fun _ _ _ h => h) (Or.inl ⟨by kernel_rfl, ?_⟩) (by assumption) ?_
  case refine_2 => (intro w9 hSw; clear hSw; go_simp; try with_reducible rfl)
  simp only [Act.put, List.setIfInBounds_toArray, List.set_cons_zero, List.set_cons_succ]
  refine wpAnyH_take (i := 2) (v := ?_) (oi := { dst := some 32, op := _, type := _, pos := _, after := _, guard := none }) rfl (by kernel_rfl) (by kernel_rfl) (by kernel_rfl) (fun _ _ _ h => h) (Or.inl ⟨by kernel_rfl, ?_⟩) (by assumption) ?_
  case refine_2 => (intro w9 hSw; clear hSw; go_simp; try with_reducible rfl)
  simp only [Act.put, List.setIfInBounds_toArray, List.set_cons_zero, List.set_cons_succ]
  refine wpAnyH_take (i := 3) (v := ?_) (oi := { dst := some 33, op := _, type := _, pos := _, after := _, guard := none }) rfl (by kernel_rfl) (by kernel_rfl) (by kernel_rfl) (fun _ _ _ h => h) (Or.inl ⟨by kernel_rfl, ?_⟩) (by assumption) ?_
  case refine_2 => (intro w9 hSw; clear hSw; go_simp; try with_reducible rfl)
  simp only [Act.put, List.setIfInBounds_toArray, List.set_cons_zero, List.set_cons_succ]
  refine wpAnyH_ready (rs := [1]) (by kernel_rfl) (by simp) (AllReadyH.cons (o := { dst := some 31, op := _, type := _, pos := _, after := _, guard := none }) rfl (fun K hK => ?_) AllReadyH.nil)
  go_simp
  refine (DY.out _).mono ?_
  rintro e v1 ⟨rfl, hb1⟩
  refine hK.out _ _ (hHeld.below hb1) (fun hHeld => ?_)
  clear hK K hb1
  refine wpAnyH_ready (rs := [4]) (by kernel_rfl) (by simp) (AllReadyH.cons (o := { dst := some 34, op := _, type := _, pos := _, after := _, guard := none }) rfl (fun K hK => ?_) AllReadyH.nil)
  go_simp
  refine (NU.out _).mono ?_
  rintro e v2 ⟨rfl, hb2⟩
  refine hK.out _ _ (hHeld.below hb2) (fun hHeld => ?_)
  clear hK K hb2
  refine wpAnyH_take (i := 5) (v := ?_) (oi := { dst := some 35, op := _, type := _, pos := _, after := _, guard := none }) rfl (by kernel_rfl) (by kernel_rfl) (by kernel_rfl) (fun _ _ _ h => h) (Or.inl ⟨by kernel_rfl, ?_⟩) (by assumption) ?_
  case refine_2 => (intro w9 hSw; clear hSw; go_simp; try with_reducible rfl)
  simp only [Act.put, List.setIfInBounds_toArray, List.set_cons_zero, List.set_cons_succ]
  refine wpAnyH_take (i := 6) (v := ?_) (oi := { dst := some 36, op := _, type := _, pos := _, after := _, guard := none }) rfl (by kernel_rfl) (by kernel_rfl) (by kernel_rfl) (fun _ _ _ h => h) (Or.inl ⟨by kernel_rfl, ?_⟩) (by assumption) ?_
  case refine_2 => (intro w9 hSw; clear hSw; go_simp; try with_reducible rfl)
  simp only [Act.put, List.setIfInBounds_toArray, List.set_cons_zero, List.set_cons_succ]
  refine wpAnyH_take (i := 7) (v := ?_) (oi := { dst := some 2, op := _, type := _, pos := _, after := _, guard := none }) rfl (by kernel_rfl) (by kernel_rfl) (by kernel_rfl) (fun _ _ _ h => h) (Or.inl ⟨by kernel_rfl, ?_⟩) (by assumption) ?_
  case refine_2 => (intro w9 hSw; clear hSw; go_simp; try with_reducible rfl)
  simp only [Act.put, List.setIfInBounds_toArray, List.set_cons_zero, List.set_cons_succ]
  refine wpAnyH_done (by kernel_rfl) ?_ _
  have B3 : Hid (BelS w _) := hHeld
  clear hHeld
  go_wp2
  go_ret
  exact ⟨rfl, B3.out⟩

set_option maxRecDepth 100000 in
set_option maxHeartbeats 4000000 in
theorem rf_fin (s NM RS : ByteArray) (d : Int) (h0 : NM.size ≠ 0) (hr : RS = ⟨#[]⟩) (hn : 4 < NM.size) (hn2 : NM.size ≤ maxLen)
    (CU : Hid (∀ w : World, Calls Tryz.prog 188 #[.string s, .func (.func 189) #[] #[]] w fun e w' => e = .returned (.tuple #[.string NM, .string RS]) ∧ Below w.heap.size w w'))
    (P1 : Hid (∀ w : World, Calls Tryz.prog 184 #[.string RS, .string ⟨#[62, 61]⟩] w fun e w' => e = .returned (.bool false) ∧ w' = w))
    (P2 : Hid (∀ w : World, Calls Tryz.prog 184 #[.string RS, .string ⟨#[60, 61]⟩] w fun e w' => e = .returned (.bool false) ∧ w' = w))
    (SA : Hid (∀ w : World, Calls Tryz.prog 113 #[.string (NM.extract 0 4), .string ⟨#[108, 97, 115, 116]⟩] w fun e w' => e = .returned (.bool true) ∧ Below w.heap.size w w'))
    (DY : Hid (∀ w : World, Calls Tryz.prog 191 #[.string (NM.extract 4 NM.size)] w fun e w' => e = .returned (.int .i64 d) ∧ Below w.heap.size w w'))
    (w : World) :
    Calls Tryz.prog 187 #[.string s] w fun e w' => e = .returned (.iface 223 (.agg #[.int .i64 d])) ∧ Below w.heap.size w w' := by
  obtain ⟨h1, h2⟩ := Wrd.toList_ne h0
  subst hr
  have hn' : (4 : Int) < (NM.size : Int) := by omega
  go_enter Tryz.func187, Tryz.ntmps187
  go_wp2_with fail
  refine (CU.out _).mono ?_
  rintro e w1 ⟨rfl, hb⟩
  have B1 : Hid (BelS w w1) := hb
  clear hb
  go_wp2_with fail
  refine (P1.out _).mono ?_
  rintro e v2 ⟨rfl, rfl⟩
  go_wp2_with fail
  refine (P2.out _).mono ?_
  rintro e v3 ⟨rfl, rfl⟩
  go_wp2_with fail
  refine (SA.out _).mono ?_
  rintro e w2 ⟨rfl, hb⟩
  have B2 : Hid (BelS w w2) := B1.out.below hb
  clear hb
  go_wp2_with fail
  refine (DY.out _).mono ?_
  rintro e w3 ⟨rfl, hb⟩
  have B3 : Hid (BelS w w3) := B2.out.below hb
  clear hb
  go_wp2
  go_ret
  exact ⟨rfl, B3.out⟩

set_option maxRecDepth 100000 in
set_option maxHeartbeats 4000000 in
theorem rf_x1 (s NM RS : ByteArray) (h0 : NM.size ≠ 0) (hr : RS.size ≠ 0)
    (CU : Hid (∀ w : World, Calls Tryz.prog 188 #[.string s, .func (.func 189) #[] #[]] w fun e w' => e = .returned (.tuple #[.string NM, .string RS]) ∧ Below w.heap.size w w'))
    (P1 : Hid (∀ w : World, Calls Tryz.prog 184 #[.string RS, .string ⟨#[62, 61]⟩] w fun e w' => e = .returned (.bool false) ∧ w' = w))
    (P2 : Hid (∀ w : World, Calls Tryz.prog 184 #[.string RS, .string ⟨#[60, 61]⟩] w fun e w' => e = .returned (.bool false) ∧ w' = w))
    (w : World) :
    Calls Tryz.prog 187 #[.string s] w fun e w' => e = .returned (.nilIface) ∧ Below w.heap.size w w' := by
  obtain ⟨h1, h2⟩ := Wrd.toList_ne h0
  obtain ⟨r1, r2⟩ := Wrd.toList_ne hr
  go_enter Tryz.func187, Tryz.ntmps187
  go_wp2_with fail
  refine (CU.out _).mono ?_
  rintro e w1 ⟨rfl, hb⟩
  have B1 : Hid (BelS w w1) := hb
  clear hb
  go_wp2_with fail
  refine (P1.out _).mono ?_
  rintro e v2 ⟨rfl, rfl⟩
  go_wp2_with fail
  refine (P2.out _).mono ?_
  rintro e v3 ⟨rfl, rfl⟩
  go_wp2
  go_ret
  exact ⟨rfl, B1.out⟩

set_option maxRecDepth 100000 in
set_option maxHeartbeats 4000000 in
theorem rf_x2 (s NM RS : ByteArray) (h0 : NM.size ≠ 0) (hr : RS = ⟨#[]⟩) (hn : NM.size ≤ 4)
    (CU : Hid (∀ w : World, Calls Tryz.prog 188 #[.string s, .func (.func 189) #[] #[]] w fun e w' => e = .returned (.tuple #[.string NM, .string RS]) ∧ Below w.heap.size w w'))
    (P1 : Hid (∀ w : World, Calls Tryz.prog 184 #[.string RS, .string ⟨#[62, 61]⟩] w fun e w' => e = .returned (.bool false) ∧ w' = w))
    (P2 : Hid (∀ w : World, Calls Tryz.prog 184 #[.string RS, .string ⟨#[60, 61]⟩] w fun e w' => e = .returned (.bool false) ∧ w' = w))
    (w : World) :
    Calls Tryz.prog 187 #[.string s] w fun e w' => e = .returned (.nilIface) ∧ Below w.heap.size w w' := by
  obtain ⟨h1, h2⟩ := Wrd.toList_ne h0
  subst hr
  have hn' : ¬ (4 : Int) < (NM.size : Int) := by omega
  go_enter Tryz.func187, Tryz.ntmps187
  go_wp2_with fail
  refine (CU.out _).mono ?_
  rintro e w1 ⟨rfl, hb⟩
  have B1 : Hid (BelS w w1) := hb
  clear hb
  go_wp2_with fail
  refine (P1.out _).mono ?_
  rintro e v2 ⟨rfl, rfl⟩
  go_wp2_with fail
  refine (P2.out _).mono ?_
  rintro e v3 ⟨rfl, rfl⟩
  go_wp2
  go_ret
  exact ⟨rfl, B1.out⟩

set_option maxRecDepth 100000 in
set_option maxHeartbeats 4000000 in
theorem rf_x3 (s NM RS : ByteArray) (h0 : NM.size ≠ 0) (hr : RS = ⟨#[]⟩) (hn : 4 < NM.size) (hn2 : NM.size ≤ maxLen)
    (CU : Hid (∀ w : World, Calls Tryz.prog 188 #[.string s, .func (.func 189) #[] #[]] w fun e w' => e = .returned (.tuple #[.string NM, .string RS]) ∧ Below w.heap.size w w'))
    (P1 : Hid (∀ w : World, Calls Tryz.prog 184 #[.string RS, .string ⟨#[62, 61]⟩] w fun e w' => e = .returned (.bool false) ∧ w' = w))
    (P2 : Hid (∀ w : World, Calls Tryz.prog 184 #[.string RS, .string ⟨#[60, 61]⟩] w fun e w' => e = .returned (.bool false) ∧ w' = w))
    (SA : Hid (∀ w : World, Calls Tryz.prog 113 #[.string (NM.extract 0 4), .string ⟨#[108, 97, 115, 116]⟩] w fun e w' => e = .returned (.bool false) ∧ Below w.heap.size w w'))
    (w : World) :
    Calls Tryz.prog 187 #[.string s] w fun e w' => e = .returned (.nilIface) ∧ Below w.heap.size w w' := by
  obtain ⟨h1, h2⟩ := Wrd.toList_ne h0
  subst hr
  have hn' : (4 : Int) < (NM.size : Int) := by omega
  go_enter Tryz.func187, Tryz.ntmps187
  go_wp2_with fail
  refine (CU.out _).mono ?_
  rintro e w1 ⟨rfl, hb⟩
  have B1 : Hid (BelS w w1) := hb
  clear hb
  go_wp2_with fail
  refine (P1.out _).mono ?_
  rintro e v2 ⟨rfl, rfl⟩
  go_wp2_with fail
  refine (P2.out _).mono ?_
  rintro e v3 ⟨rfl, rfl⟩
  go_wp2_with fail
  refine (SA.out _).mono ?_
  rintro e w2 ⟨rfl, hb⟩
  have B2 : Hid (BelS w w2) := B1.out.below hb
  clear hb
  go_wp2
  go_ret
  exact ⟨rfl, B2.out⟩

end Go.Proofs.YtgnfkkcagbbhmaaGreatDoor
