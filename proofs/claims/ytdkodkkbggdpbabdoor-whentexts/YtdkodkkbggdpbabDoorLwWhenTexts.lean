/- The walk of WhenTexts. -/
import Derived.Test.YtdkodkkbggdpbabDoorWhnP
import Derived.Test.YtdkodkkbggdpbabDoorWhnK
namespace Go.Proofs.YtdkodkkbggdpbabDoor
open Go.RowKit
set_option linter.unusedVariables false

/-- both blocks of the law's arguments. -/
def TxS (w : World) (k d n s q : Int) (W : World) : Prop := OnS w w.heap.size k d n W ∧ AtS w (w.heap.size + 1) s q W
theorem TxS.below {w W W1 : World} {k d n s q : Int} (h : TxS w k d n s q W) (hb : Below W.heap.size W W1) : TxS w k d n s q W1 := ⟨h.1.below hb, h.2.below hb⟩
theorem TxS.drew {w W : World} {k d n s q : Int} (h : TxS w k d n s q W) : TxS w k d n s q W.drew := ⟨h.1.drew, h.2.drew⟩
theorem TxS.new (w : World) (k d n s q : Int) (t u : TypeId) : TxS w k d n s q ((w.alloc (.cells #[.int .i64 k, .int .i64 d, .int .i64 n] t)).alloc (.cells #[.int .i64 s, .int .u8 q] u)) := by
  have a := (OnS.new w k d n t).below ((Below.refl _ _).alloc (Nat.le_refl _) (.cells #[.int .i64 s, .int .u8 q] u))
  have z : (w.alloc (.cells #[.int .i64 k, .int .i64 d, .int .i64 n] t)).heap.size = w.heap.size + 1 := by simp
  have b := AtS.new (w.alloc (.cells #[.int .i64 k, .int .i64 d, .int .i64 n] t)) s q u
  rw [z] at b
  exact ⟨a, b.1, b.2.1, b.2.2.1, a.2.2.2.2⟩
theorem TxS.more {w W : World} {k d n s q : Int} (h : TxS w k d n s q W) (ob : Obj) : TxS w k d n s q (W.alloc ob) := h.below ((Below.refl _ _).alloc (Nat.le_refl _) _)
/-- .. and a third one. -/
def TyS (w : World) (b : Nat) (k d n s q : Int) (W : World) : Prop := OnS w b k d n W ∧ TxS w k d n s q W
theorem TyS.below {w W W1 : World} {b : Nat} {k d n s q : Int} (h : TyS w b k d n s q W) (hb : Below W.heap.size W W1) : TyS w b k d n s q W1 := ⟨h.1.below hb, h.2.below hb⟩
theorem TyS.drew {w W : World} {b : Nat} {k d n s q : Int} (h : TyS w b k d n s q W) : TyS w b k d n s q W.drew := ⟨h.1.drew, h.2.drew⟩

set_option maxRecDepth 100000 in
set_option maxHeartbeats 16000000 in
theorem core_WhenTexts_11 (k d n s q : Int) (T1 T2 : ByteArray)
    (GV : Hid (∀ w : World, Calls Tryd.prog 22 #[.agg #[.int .i64 k, .int .i64 d, .int .i64 n]] w fun e w' => e = .returned (.agg #[.int .i64 k, .int .i64 d, .int .i64 n]) ∧ Below w.heap.size w w'))
    (C1 : Hid (∀ w : World, Calls Tryd.prog 24 #[.agg #[.int .i64 k, .int .i64 d, .int .i64 n]] w fun e w' => e = .returned (.tuple #[.string T1, .int .i64 0]) ∧ Below w.heap.size w w'))
    (C2 : Hid (∀ w : World, Calls Tryd.prog 25 #[.agg #[.int .i64 k, .int .i64 d, .int .i64 n]] w fun e w' => e = .returned (.tuple #[.string T1, .int .i64 0]) ∧ Below w.heap.size w w'))
    (C3 : Hid (∀ w : World, Clk.Tab w → Calls Tryd.prog 26 #[.agg #[.int .i64 s, .int .u8 q]] w fun e w' => e = .returned (.tuple #[.string T2, .int .i64 0]) ∧ Below w.heap.size w w'))
    (C4 : Hid (∀ w : World, Calls Tryd.prog 27 #[.agg #[.int .i64 s, .int .u8 q]] w fun e w' => e = .returned (.tuple #[.string T2, .int .i64 0]) ∧ Below w.heap.size w w'))
    (C5 : Hid (∀ w : World, Calls Tryd.prog 13 #[.string T1] w fun e w' => e = .returned (.tuple #[.agg #[.int .i64 k, .int .i64 d, .int .i64 n], .int .i64 0]) ∧ Below w.heap.size w w'))
    (TK : Hid (∀ w : World, Calls Tryd.prog 19 #[.agg #[.int .i64 k, .int .i64 d, .int .i64 n]] w fun e w' => e = .returned (.agg #[.int .i64 k, .int .i64 d, .int .i64 n]) ∧ Below w.heap.size w w'))
    (C6 : Hid (∀ w : World, Calls Tryd.prog 15 #[.string T2] w fun e w' => e = .returned (.tuple #[.agg #[.int .i64 s, .int .u8 q], .int .i64 0]) ∧ Below w.heap.size w w'))
    (KN : Hid (∀ w : World, Cvl.Lens w → Calls Tryd.prog 20 #[] w fun e w' => e = .returned (.bool true) ∧ Below w.heap.size w w'))
    (w : World) (hL : Hid (Cvl.Lens w)) (hT : Hid (Clk.Tab w)) :
    Calls Tryd.prog 7 #[.agg #[.int .i64 k, .int .i64 d, .int .i64 n], .agg #[.int .i64 s, .int .u8 q]] w fun e w' => e = .returned (.bool true) ∧ Below w.heap.size w w' := by
  have S0 : Hid (TxS w k d n s q ((w.alloc (.cells #[.int .i64 k, .int .i64 d, .int .i64 n] 35)).alloc (.cells #[.int .i64 s, .int .u8 q] 42))) := TxS.new w _ _ _ _ _ _ _
  have LL : Hid (∀ W : World, Below w.heap.size w W → Cvl.Lens W) := fun W hb => Lens_below hL.out hb (Lens_lt hL.out)
  have TT : Hid (∀ W : World, Below w.heap.size w W → Clk.Tab W) := fun W hb => hT.out.below hb
  clear hL hT
  go_enter Tryd.func7, Tryd.ntmps7
  go_wp2_with fail
  refine (GV.out _).mono ?_
  rintro e w1 ⟨rfl, hb⟩
  have S1 : Hid (TxS w k d n s q w1) := S0.out.below hb
  clear hb S0
  go_wp2_with fail
  refine (C1.out _).mono ?_
  rintro e w2 ⟨rfl, hb⟩
  have S2 : Hid (TxS w k d n s q w2) := S1.out.below hb
  clear hb S1
  obtain ⟨⟨o1, o2, o3, o4, o5⟩, ⟨p1, p2, p3, p4⟩⟩ := id S2.out
  clear o5 p4
  go_wp2_with fail
  refine (C2.out _).mono ?_
  rintro e w3 ⟨rfl, hb⟩
  have S3 : Hid (TxS w k d n s q w3) := S2.out.below hb
  clear hb S2 o1 o2 o3 o4 p1 p2 p3
  obtain ⟨⟨o1, o2, o3, o4, o5⟩, ⟨p1, p2, p3, p4⟩⟩ := id S3.out
  clear o5 p4
  go_wp2_with fail
  refine (C3.out _ (TT.out _ S3.out.1.2.2.2.2)).mono ?_
  rintro e w4 ⟨rfl, hb⟩
  have S4 : Hid (TxS w k d n s q w4) := S3.out.below hb
  clear hb S3 o1 o2 o3 o4 p1 p2 p3
  obtain ⟨⟨o1, o2, o3, o4, o5⟩, ⟨p1, p2, p3, p4⟩⟩ := id S4.out
  clear o5 p4
  go_wp2_with fail
  refine (C4.out _).mono ?_
  rintro e w5 ⟨rfl, hb⟩
  have S5 : Hid (TxS w k d n s q w5) := S4.out.below hb
  clear hb S4 o1 o2 o3 o4 p1 p2 p3
  go_wp2_with fail
  refine (C5.out _).mono ?_
  rintro e w6 ⟨rfl, hb⟩
  have Y6 : Hid (TyS w w6.heap.size k d n s q (w6.alloc (.cells #[.int .i64 k, .int .i64 d, .int .i64 n] 32))) := by
    have u := S5.out.below hb
    exact ⟨OnS.put u.1.2.2.2.2 k d n _, u.more _⟩
  clear hb S5
  go_wp2_with fail
  refine wp_region_held_drew (S := TyS w w6.heap.size k d n s q) (by kernel_rfl) Y6.out.drew (fun hHeld => ?_)
  refine wpAnyH_take (i := 0) (v := ?_) (oi := { dst := some 67, op := _, type := _, pos := _, after := _, guard := none }) rfl (by kernel_rfl) (by kernel_rfl) (by kernel_rfl) (fun _ _ _ h => h) (Or.inl ⟨by kernel_rfl, ?_⟩) (by assumption) ?_
  case refine_2 => (intro w9 hSw; obtain ⟨⟨sa, sb, sc, sd, se⟩, ⟨⟨ta, tb, tc, td, te⟩, ⟨ua, ub, uc, ud⟩⟩⟩ := hSw; clear se te ud; go_simp; try with_reducible rfl)
  simp only [Act.put, List.setIfInBounds_toArray, List.set_cons_zero, List.set_cons_succ]
  refine wpAnyH_take (i := 2) (v := ?_) (oi := { dst := some 69, op := _, type := _, pos := _, after := _, guard := none }) rfl (by kernel_rfl) (by kernel_rfl) (by kernel_rfl) (fun _ _ _ h => h) (Or.inl ⟨by kernel_rfl, ?_⟩) (by assumption) ?_
  case refine_2 => (intro w9 hSw; obtain ⟨⟨sa, sb, sc, sd, se⟩, ⟨⟨ta, tb, tc, td, te⟩, ⟨ua, ub, uc, ud⟩⟩⟩ := hSw; clear se te ud; go_simp; try with_reducible rfl)
  simp only [Act.put, List.setIfInBounds_toArray, List.set_cons_zero, List.set_cons_succ]
  refine wpAnyH_ready (rs := [1]) (by kernel_rfl) (by simp) (AllReadyH.cons (o := { dst := some 68, op := _, type := _, pos := _, after := _, guard := none }) rfl (fun K hK => ?_) AllReadyH.nil)
  go_simp
  refine (TK.out _).mono ?_
  rintro e v1 ⟨rfl, hb1⟩
  refine hK.out _ _ (hHeld.below hb1) (fun hHeld => ?_)
  clear hK K hb1
  refine wpAnyH_take (i := 3) (v := ?_) (oi := { dst := some 70, op := _, type := _, pos := _, after := _, guard := none }) rfl (by kernel_rfl) (by kernel_rfl) (by kernel_rfl) (fun _ _ _ h => h) (Or.inl ⟨by kernel_rfl, ?_⟩) (by assumption) ?_
  case refine_2 => (intro w9 hSw; clear hSw; go_simp; try with_reducible rfl)
  simp only [Act.put, List.setIfInBounds_toArray, List.set_cons_zero, List.set_cons_succ]
  refine wpAnyH_take (i := 4) (v := ?_) (oi := { dst := some 71, op := _, type := _, pos := _, after := _, guard := none }) rfl (by kernel_rfl) (by kernel_rfl) (by kernel_rfl) (fun _ _ _ h => h) (Or.inl ⟨by kernel_rfl, ?_⟩) (by assumption) ?_
  case refine_2 => (intro w9 hSw; clear hSw; go_simp; try with_reducible rfl)
  simp only [Act.put, List.setIfInBounds_toArray, List.set_cons_zero, List.set_cons_succ]
  refine wpAnyH_take (i := 5) (v := ?_) (oi := { dst := some 72, op := _, type := _, pos := _, after := _, guard := some (4, false) }) rfl (by kernel_rfl) (by kernel_rfl) (by kernel_rfl) (fun _ _ _ h => h) (Or.inl ⟨by kernel_rfl, ?_⟩) (by assumption) ?_
  case refine_2 => (intro w9 hSw; clear hSw; go_simp; try with_reducible rfl)
  simp only [Act.put, List.setIfInBounds_toArray, List.set_cons_zero, List.set_cons_succ]
  refine wpAnyH_take (i := 6) (v := ?_) (oi := { dst := some 73, op := _, type := _, pos := _, after := _, guard := some (4, false) }) rfl (by kernel_rfl) (by kernel_rfl) (by kernel_rfl) (fun _ _ _ h => h) (Or.inl ⟨by kernel_rfl, ?_⟩) (by assumption) ?_
  case refine_2 => (intro w9 hSw; clear hSw; go_simp; try with_reducible rfl)
  simp only [Act.put, List.setIfInBounds_toArray, List.set_cons_zero, List.set_cons_succ]
  refine wpAnyH_take (i := 7) (v := ?_) (oi := { dst := some 74, op := _, type := _, pos := _, after := _, guard := none }) rfl (by kernel_rfl) (by kernel_rfl) (by kernel_rfl) (fun _ _ _ h => h) (Or.inl ⟨by kernel_rfl, ?_⟩) (by assumption) ?_
  case refine_2 => (intro w9 hSw; clear hSw; go_simp; try with_reducible rfl)
  simp only [Act.put, List.setIfInBounds_toArray, List.set_cons_zero, List.set_cons_succ]
  refine wpAnyH_done (by kernel_rfl) ?_ _
  have S6 : Hid (TxS w k d n s q _) := hHeld.2
  clear hHeld
  go_wp2_with fail
  refine (C6.out _).mono ?_
  rintro e w7 ⟨rfl, hb⟩
  have S7 : Hid (TxS w k d n s q (w7.alloc (.cells #[.int .i64 s, .int .u8 q] 39))) := ((S6.out).below hb).more _
  clear hb
  obtain ⟨⟨o1, o2, o3, o4, o5⟩, ⟨p1, p2, p3, p4⟩⟩ := id S7.out
  clear o5 p4
  go_wp2_with fail
  refine (KN.out _ (LL.out _ S7.out.1.2.2.2.2)).mono ?_
  rintro e w9 ⟨rfl, hb⟩
  have S9 : Hid (TxS w k d n s q w9) := S7.out.below hb
  clear hb
  go_wp2
  go_ret
  exact ⟨rfl, S9.out.1.2.2.2.2⟩

set_option maxRecDepth 100000 in
set_option maxHeartbeats 16000000 in
theorem core_WhenTexts_10 (k d n s q : Int) (T1 T2 : ByteArray)
    (GV : Hid (∀ w : World, Calls Tryd.prog 22 #[.agg #[.int .i64 k, .int .i64 d, .int .i64 n]] w fun e w' => e = .returned (.agg #[.int .i64 k, .int .i64 d, .int .i64 n]) ∧ Below w.heap.size w w'))
    (C1 : Hid (∀ w : World, Calls Tryd.prog 24 #[.agg #[.int .i64 k, .int .i64 d, .int .i64 n]] w fun e w' => e = .returned (.tuple #[.string T1, .int .i64 0]) ∧ Below w.heap.size w w'))
    (C2 : Hid (∀ w : World, Calls Tryd.prog 25 #[.agg #[.int .i64 k, .int .i64 d, .int .i64 n]] w fun e w' => e = .returned (.tuple #[.string T1, .int .i64 0]) ∧ Below w.heap.size w w'))
    (C3 : Hid (∀ w : World, Clk.Tab w → Calls Tryd.prog 26 #[.agg #[.int .i64 s, .int .u8 q]] w fun e w' => e = .returned (.tuple #[.string T2, .int .i64 1]) ∧ Below w.heap.size w w'))
    (C4 : Hid (∀ w : World, Calls Tryd.prog 27 #[.agg #[.int .i64 s, .int .u8 q]] w fun e w' => e = .returned (.tuple #[.string T2, .int .i64 1]) ∧ Below w.heap.size w w'))
    (C5 : Hid (∀ w : World, Calls Tryd.prog 13 #[.string T1] w fun e w' => e = .returned (.tuple #[.agg #[.int .i64 k, .int .i64 d, .int .i64 n], .int .i64 0]) ∧ Below w.heap.size w w'))
    (TK : Hid (∀ w : World, Calls Tryd.prog 19 #[.agg #[.int .i64 k, .int .i64 d, .int .i64 n]] w fun e w' => e = .returned (.agg #[.int .i64 k, .int .i64 d, .int .i64 n]) ∧ Below w.heap.size w w'))
    (KN : Hid (∀ w : World, Cvl.Lens w → Calls Tryd.prog 20 #[] w fun e w' => e = .returned (.bool true) ∧ Below w.heap.size w w'))
    (w : World) (hL : Hid (Cvl.Lens w)) (hT : Hid (Clk.Tab w)) :
    Calls Tryd.prog 7 #[.agg #[.int .i64 k, .int .i64 d, .int .i64 n], .agg #[.int .i64 s, .int .u8 q]] w fun e w' => e = .returned (.bool true) ∧ Below w.heap.size w w' := by
  have S0 : Hid (TxS w k d n s q ((w.alloc (.cells #[.int .i64 k, .int .i64 d, .int .i64 n] 35)).alloc (.cells #[.int .i64 s, .int .u8 q] 42))) := TxS.new w _ _ _ _ _ _ _
  have LL : Hid (∀ W : World, Below w.heap.size w W → Cvl.Lens W) := fun W hb => Lens_below hL.out hb (Lens_lt hL.out)
  have TT : Hid (∀ W : World, Below w.heap.size w W → Clk.Tab W) := fun W hb => hT.out.below hb
  clear hL hT
  go_enter Tryd.func7, Tryd.ntmps7
  go_wp2_with fail
  refine (GV.out _).mono ?_
  rintro e w1 ⟨rfl, hb⟩
  have S1 : Hid (TxS w k d n s q w1) := S0.out.below hb
  clear hb S0
  go_wp2_with fail
  refine (C1.out _).mono ?_
  rintro e w2 ⟨rfl, hb⟩
  have S2 : Hid (TxS w k d n s q w2) := S1.out.below hb
  clear hb S1
  obtain ⟨⟨o1, o2, o3, o4, o5⟩, ⟨p1, p2, p3, p4⟩⟩ := id S2.out
  clear o5 p4
  go_wp2_with fail
  refine (C2.out _).mono ?_
  rintro e w3 ⟨rfl, hb⟩
  have S3 : Hid (TxS w k d n s q w3) := S2.out.below hb
  clear hb S2 o1 o2 o3 o4 p1 p2 p3
  obtain ⟨⟨o1, o2, o3, o4, o5⟩, ⟨p1, p2, p3, p4⟩⟩ := id S3.out
  clear o5 p4
  go_wp2_with fail
  refine (C3.out _ (TT.out _ S3.out.1.2.2.2.2)).mono ?_
  rintro e w4 ⟨rfl, hb⟩
  have S4 : Hid (TxS w k d n s q w4) := S3.out.below hb
  clear hb S3 o1 o2 o3 o4 p1 p2 p3
  obtain ⟨⟨o1, o2, o3, o4, o5⟩, ⟨p1, p2, p3, p4⟩⟩ := id S4.out
  clear o5 p4
  go_wp2_with fail
  refine (C4.out _).mono ?_
  rintro e w5 ⟨rfl, hb⟩
  have S5 : Hid (TxS w k d n s q w5) := S4.out.below hb
  clear hb S4 o1 o2 o3 o4 p1 p2 p3
  go_wp2_with fail
  refine (C5.out _).mono ?_
  rintro e w6 ⟨rfl, hb⟩
  have Y6 : Hid (TyS w w6.heap.size k d n s q (w6.alloc (.cells #[.int .i64 k, .int .i64 d, .int .i64 n] 32))) := by
    have u := S5.out.below hb
    exact ⟨OnS.put u.1.2.2.2.2 k d n _, u.more _⟩
  clear hb S5
  go_wp2_with fail
  refine wp_region_held_drew (S := TyS w w6.heap.size k d n s q) (by kernel_rfl) Y6.out.drew (fun hHeld => ?_)
  refine wpAnyH_take (i := 0) (v := ?_) (oi := { dst := some 67, op := _, type := _, pos := _, after := _, guard := none }) rfl (by kernel_rfl) (by kernel_rfl) (by kernel_rfl) (fun _ _ _ h => h) (Or.inl ⟨by kernel_rfl, ?_⟩) (by assumption) ?_
  case refine_2 => (intro w9 hSw; obtain ⟨⟨sa, sb, sc, sd, se⟩, ⟨⟨ta, tb, tc, td, te⟩, ⟨ua, ub, uc, ud⟩⟩⟩ := hSw; clear se te ud; go_simp; try with_reducible rfl)
  simp only [Act.put, List.setIfInBounds_toArray, List.set_cons_zero, List.set_cons_succ]
  refine wpAnyH_take (i := 2) (v := ?_) (oi := { dst := some 69, op := _, type := _, pos := _, after := _, guard := none }) rfl (by kernel_rfl) (by kernel_rfl) (by kernel_rfl) (fun _ _ _ h => h) (Or.inl ⟨by kernel_rfl, ?_⟩) (by assumption) ?_
  case refine_2 => (intro w9 hSw; obtain ⟨⟨sa, sb, sc, sd, se⟩, ⟨⟨ta, tb, tc, td, te⟩, ⟨ua, ub, uc, ud⟩⟩⟩ := hSw; clear se te ud; go_simp; try with_reducible rfl)
  simp only [Act.put, List.setIfInBounds_toArray, List.set_cons_zero, List.set_cons_succ]
  refine wpAnyH_ready (rs := [1]) (by kernel_rfl) (by simp) (AllReadyH.cons (o := { dst := some 68, op := _, type := _, pos := _, after := _, guard := none }) rfl (fun K hK => ?_) AllReadyH.nil)
  go_simp
  refine (TK.out _).mono ?_
  rintro e v1 ⟨rfl, hb1⟩
  refine hK.out _ _ (hHeld.below hb1) (fun hHeld => ?_)
  clear hK K hb1
  refine wpAnyH_take (i := 3) (v := ?_) (oi := { dst := some 70, op := _, type := _, pos := _, after := _, guard := none }) rfl (by kernel_rfl) (by kernel_rfl) (by kernel_rfl) (fun _ _ _ h => h) (Or.inl ⟨by kernel_rfl, ?_⟩) (by assumption) ?_
  case refine_2 => (intro w9 hSw; clear hSw; go_simp; try with_reducible rfl)
  simp only [Act.put, List.setIfInBounds_toArray, List.set_cons_zero, List.set_cons_succ]
  refine wpAnyH_take (i := 4) (v := ?_) (oi := { dst := some 71, op := _, type := _, pos := _, after := _, guard := none }) rfl (by kernel_rfl) (by kernel_rfl) (by kernel_rfl) (fun _ _ _ h => h) (Or.inl ⟨by kernel_rfl, ?_⟩) (by assumption) ?_
  case refine_2 => (intro w9 hSw; clear hSw; go_simp; try with_reducible rfl)
  simp only [Act.put, List.setIfInBounds_toArray, List.set_cons_zero, List.set_cons_succ]
  refine wpAnyH_take (i := 5) (v := ?_) (oi := { dst := some 72, op := _, type := _, pos := _, after := _, guard := some (4, false) }) rfl (by kernel_rfl) (by kernel_rfl) (by kernel_rfl) (fun _ _ _ h => h) (Or.inl ⟨by kernel_rfl, ?_⟩) (by assumption) ?_
  case refine_2 => (intro w9 hSw; clear hSw; go_simp; try with_reducible rfl)
  simp only [Act.put, List.setIfInBounds_toArray, List.set_cons_zero, List.set_cons_succ]
  refine wpAnyH_take (i := 6) (v := ?_) (oi := { dst := some 73, op := _, type := _, pos := _, after := _, guard := some (4, false) }) rfl (by kernel_rfl) (by kernel_rfl) (by kernel_rfl) (fun _ _ _ h => h) (Or.inl ⟨by kernel_rfl, ?_⟩) (by assumption) ?_
  case refine_2 => (intro w9 hSw; clear hSw; go_simp; try with_reducible rfl)
  simp only [Act.put, List.setIfInBounds_toArray, List.set_cons_zero, List.set_cons_succ]
  refine wpAnyH_take (i := 7) (v := ?_) (oi := { dst := some 74, op := _, type := _, pos := _, after := _, guard := none }) rfl (by kernel_rfl) (by kernel_rfl) (by kernel_rfl) (fun _ _ _ h => h) (Or.inl ⟨by kernel_rfl, ?_⟩) (by assumption) ?_
  case refine_2 => (intro w9 hSw; clear hSw; go_simp; try with_reducible rfl)
  simp only [Act.put, List.setIfInBounds_toArray, List.set_cons_zero, List.set_cons_succ]
  refine wpAnyH_done (by kernel_rfl) ?_ _
  have S6 : Hid (TxS w k d n s q _) := hHeld.2
  clear hHeld
  go_wp2_with fail
  refine (KN.out _ (LL.out _ (S6.out).1.2.2.2.2)).mono ?_
  rintro e w9 ⟨rfl, hb⟩
  have S9 : Hid (TxS w k d n s q w9) := (S6.out).below hb
  clear hb
  go_wp2
  go_ret
  exact ⟨rfl, S9.out.1.2.2.2.2⟩

set_option maxRecDepth 100000 in
set_option maxHeartbeats 16000000 in
theorem core_WhenTexts_01 (k d n s q : Int) (T1 T2 : ByteArray)
    (GV : Hid (∀ w : World, Calls Tryd.prog 22 #[.agg #[.int .i64 k, .int .i64 d, .int .i64 n]] w fun e w' => e = .returned (.agg #[.int .i64 k, .int .i64 d, .int .i64 n]) ∧ Below w.heap.size w w'))
    (C1 : Hid (∀ w : World, Calls Tryd.prog 24 #[.agg #[.int .i64 k, .int .i64 d, .int .i64 n]] w fun e w' => e = .returned (.tuple #[.string T1, .int .i64 1]) ∧ Below w.heap.size w w'))
    (C2 : Hid (∀ w : World, Calls Tryd.prog 25 #[.agg #[.int .i64 k, .int .i64 d, .int .i64 n]] w fun e w' => e = .returned (.tuple #[.string T1, .int .i64 1]) ∧ Below w.heap.size w w'))
    (C3 : Hid (∀ w : World, Clk.Tab w → Calls Tryd.prog 26 #[.agg #[.int .i64 s, .int .u8 q]] w fun e w' => e = .returned (.tuple #[.string T2, .int .i64 0]) ∧ Below w.heap.size w w'))
    (C4 : Hid (∀ w : World, Calls Tryd.prog 27 #[.agg #[.int .i64 s, .int .u8 q]] w fun e w' => e = .returned (.tuple #[.string T2, .int .i64 0]) ∧ Below w.heap.size w w'))
    (C6 : Hid (∀ w : World, Calls Tryd.prog 15 #[.string T2] w fun e w' => e = .returned (.tuple #[.agg #[.int .i64 s, .int .u8 q], .int .i64 0]) ∧ Below w.heap.size w w'))
    (KN : Hid (∀ w : World, Cvl.Lens w → Calls Tryd.prog 20 #[] w fun e w' => e = .returned (.bool true) ∧ Below w.heap.size w w'))
    (w : World) (hL : Hid (Cvl.Lens w)) (hT : Hid (Clk.Tab w)) :
    Calls Tryd.prog 7 #[.agg #[.int .i64 k, .int .i64 d, .int .i64 n], .agg #[.int .i64 s, .int .u8 q]] w fun e w' => e = .returned (.bool true) ∧ Below w.heap.size w w' := by
  have S0 : Hid (TxS w k d n s q ((w.alloc (.cells #[.int .i64 k, .int .i64 d, .int .i64 n] 35)).alloc (.cells #[.int .i64 s, .int .u8 q] 42))) := TxS.new w _ _ _ _ _ _ _
  have LL : Hid (∀ W : World, Below w.heap.size w W → Cvl.Lens W) := fun W hb => Lens_below hL.out hb (Lens_lt hL.out)
  have TT : Hid (∀ W : World, Below w.heap.size w W → Clk.Tab W) := fun W hb => hT.out.below hb
  clear hL hT
  go_enter Tryd.func7, Tryd.ntmps7
  go_wp2_with fail
  refine (GV.out _).mono ?_
  rintro e w1 ⟨rfl, hb⟩
  have S1 : Hid (TxS w k d n s q w1) := S0.out.below hb
  clear hb S0
  go_wp2_with fail
  refine (C1.out _).mono ?_
  rintro e w2 ⟨rfl, hb⟩
  have S2 : Hid (TxS w k d n s q w2) := S1.out.below hb
  clear hb S1
  obtain ⟨⟨o1, o2, o3, o4, o5⟩, ⟨p1, p2, p3, p4⟩⟩ := id S2.out
  clear o5 p4
  go_wp2_with fail
  refine (C2.out _).mono ?_
  rintro e w3 ⟨rfl, hb⟩
  have S3 : Hid (TxS w k d n s q w3) := S2.out.below hb
  clear hb S2 o1 o2 o3 o4 p1 p2 p3
  obtain ⟨⟨o1, o2, o3, o4, o5⟩, ⟨p1, p2, p3, p4⟩⟩ := id S3.out
  clear o5 p4
  go_wp2_with fail
  refine (C3.out _ (TT.out _ S3.out.1.2.2.2.2)).mono ?_
  rintro e w4 ⟨rfl, hb⟩
  have S4 : Hid (TxS w k d n s q w4) := S3.out.below hb
  clear hb S3 o1 o2 o3 o4 p1 p2 p3
  obtain ⟨⟨o1, o2, o3, o4, o5⟩, ⟨p1, p2, p3, p4⟩⟩ := id S4.out
  clear o5 p4
  go_wp2_with fail
  refine (C4.out _).mono ?_
  rintro e w5 ⟨rfl, hb⟩
  have S5 : Hid (TxS w k d n s q w5) := S4.out.below hb
  clear hb S4 o1 o2 o3 o4 p1 p2 p3
  go_wp2_with fail
  refine (C6.out _).mono ?_
  rintro e w7 ⟨rfl, hb⟩
  have S7 : Hid (TxS w k d n s q (w7.alloc (.cells #[.int .i64 s, .int .u8 q] 39))) := ((S5.out).below hb).more _
  clear hb
  obtain ⟨⟨o1, o2, o3, o4, o5⟩, ⟨p1, p2, p3, p4⟩⟩ := id S7.out
  clear o5 p4
  go_wp2_with fail
  refine (KN.out _ (LL.out _ S7.out.1.2.2.2.2)).mono ?_
  rintro e w9 ⟨rfl, hb⟩
  have S9 : Hid (TxS w k d n s q w9) := S7.out.below hb
  clear hb
  go_wp2
  go_ret
  exact ⟨rfl, S9.out.1.2.2.2.2⟩

set_option maxRecDepth 100000 in
set_option maxHeartbeats 16000000 in
theorem core_WhenTexts_00 (k d n s q : Int) (T1 T2 : ByteArray)
    (GV : Hid (∀ w : World, Calls Tryd.prog 22 #[.agg #[.int .i64 k, .int .i64 d, .int .i64 n]] w fun e w' => e = .returned (.agg #[.int .i64 k, .int .i64 d, .int .i64 n]) ∧ Below w.heap.size w w'))
    (C1 : Hid (∀ w : World, Calls Tryd.prog 24 #[.agg #[.int .i64 k, .int .i64 d, .int .i64 n]] w fun e w' => e = .returned (.tuple #[.string T1, .int .i64 1]) ∧ Below w.heap.size w w'))
    (C2 : Hid (∀ w : World, Calls Tryd.prog 25 #[.agg #[.int .i64 k, .int .i64 d, .int .i64 n]] w fun e w' => e = .returned (.tuple #[.string T1, .int .i64 1]) ∧ Below w.heap.size w w'))
    (C3 : Hid (∀ w : World, Clk.Tab w → Calls Tryd.prog 26 #[.agg #[.int .i64 s, .int .u8 q]] w fun e w' => e = .returned (.tuple #[.string T2, .int .i64 1]) ∧ Below w.heap.size w w'))
    (C4 : Hid (∀ w : World, Calls Tryd.prog 27 #[.agg #[.int .i64 s, .int .u8 q]] w fun e w' => e = .returned (.tuple #[.string T2, .int .i64 1]) ∧ Below w.heap.size w w'))
    (KN : Hid (∀ w : World, Cvl.Lens w → Calls Tryd.prog 20 #[] w fun e w' => e = .returned (.bool true) ∧ Below w.heap.size w w'))
    (w : World) (hL : Hid (Cvl.Lens w)) (hT : Hid (Clk.Tab w)) :
    Calls Tryd.prog 7 #[.agg #[.int .i64 k, .int .i64 d, .int .i64 n], .agg #[.int .i64 s, .int .u8 q]] w fun e w' => e = .returned (.bool true) ∧ Below w.heap.size w w' := by
  have S0 : Hid (TxS w k d n s q ((w.alloc (.cells #[.int .i64 k, .int .i64 d, .int .i64 n] 35)).alloc (.cells #[.int .i64 s, .int .u8 q] 42))) := TxS.new w _ _ _ _ _ _ _
  have LL : Hid (∀ W : World, Below w.heap.size w W → Cvl.Lens W) := fun W hb => Lens_below hL.out hb (Lens_lt hL.out)
  have TT : Hid (∀ W : World, Below w.heap.size w W → Clk.Tab W) := fun W hb => hT.out.below hb
  clear hL hT
  go_enter Tryd.func7, Tryd.ntmps7
  go_wp2_with fail
  refine (GV.out _).mono ?_
  rintro e w1 ⟨rfl, hb⟩
  have S1 : Hid (TxS w k d n s q w1) := S0.out.below hb
  clear hb S0
  go_wp2_with fail
  refine (C1.out _).mono ?_
  rintro e w2 ⟨rfl, hb⟩
  have S2 : Hid (TxS w k d n s q w2) := S1.out.below hb
  clear hb S1
  obtain ⟨⟨o1, o2, o3, o4, o5⟩, ⟨p1, p2, p3, p4⟩⟩ := id S2.out
  clear o5 p4
  go_wp2_with fail
  refine (C2.out _).mono ?_
  rintro e w3 ⟨rfl, hb⟩
  have S3 : Hid (TxS w k d n s q w3) := S2.out.below hb
  clear hb S2 o1 o2 o3 o4 p1 p2 p3
  obtain ⟨⟨o1, o2, o3, o4, o5⟩, ⟨p1, p2, p3, p4⟩⟩ := id S3.out
  clear o5 p4
  go_wp2_with fail
  refine (C3.out _ (TT.out _ S3.out.1.2.2.2.2)).mono ?_
  rintro e w4 ⟨rfl, hb⟩
  have S4 : Hid (TxS w k d n s q w4) := S3.out.below hb
  clear hb S3 o1 o2 o3 o4 p1 p2 p3
  obtain ⟨⟨o1, o2, o3, o4, o5⟩, ⟨p1, p2, p3, p4⟩⟩ := id S4.out
  clear o5 p4
  go_wp2_with fail
  refine (C4.out _).mono ?_
  rintro e w5 ⟨rfl, hb⟩
  have S5 : Hid (TxS w k d n s q w5) := S4.out.below hb
  clear hb S4 o1 o2 o3 o4 p1 p2 p3
  go_wp2_with fail
  refine (KN.out _ (LL.out _ (S5.out).1.2.2.2.2)).mono ?_
  rintro e w9 ⟨rfl, hb⟩
  have S9 : Hid (TxS w k d n s q w9) := (S5.out).below hb
  clear hb
  go_wp2
  go_ret
  exact ⟨rfl, S9.out.1.2.2.2.2⟩

end Go.Proofs.YtdkodkkbggdpbabDoor
