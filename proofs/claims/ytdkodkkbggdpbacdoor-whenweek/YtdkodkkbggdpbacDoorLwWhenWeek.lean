/- The walk of WhenWeek. -/
import Derived.Test.YtdkodkkbggdpbacDoorWhnK
namespace Go.Proofs.YtdkodkkbggdpbacDoor
open Go.RowKit
set_option linter.unusedVariables false

/-- a block of a day that may be written. -/
def XB (b : Nat) (k d n : Int) (W : World) : Prop :=
  b < W.heap.size ∧ W.cell? ⟨b, 0, none⟩ = some (.int .i64 k) ∧ W.cell? ⟨b, 1, none⟩ = some (.int .i64 d) ∧ W.cell? ⟨b, 2, none⟩ = some (.int .i64 n) ∧ W.frozen? ⟨b, 0, none⟩ = false ∧ W.frozen? ⟨b, 2, none⟩ = false
theorem XB.below {b : Nat} {k d n : Int} {W W1 : World} (h : XB b k d n W) (hb : Below W.heap.size W W1) : XB b k d n W1 :=
  ⟨Nat.lt_of_lt_of_le h.1 hb.size, (hb.cell (p := ⟨b, 0, none⟩) h.1).trans h.2.1, (hb.cell (p := ⟨b, 1, none⟩) h.1).trans h.2.2.1, (hb.cell (p := ⟨b, 2, none⟩) h.1).trans h.2.2.2.1, (hb.frozen (p := ⟨b, 0, none⟩) h.1).trans h.2.2.2.2.1, (hb.frozen (p := ⟨b, 2, none⟩) h.1).trans h.2.2.2.2.2⟩
theorem XB.new (w : World) (k d n : Int) (t : TypeId) : XB w.heap.size k d n (w.alloc (.cells #[.int .i64 k, .int .i64 d, .int .i64 n] t)) :=
  ⟨by simp, by rw [World.cell?_alloc_at _ _ _ _ rfl]; rfl, by rw [World.cell?_alloc_at _ _ _ _ rfl]; rfl, by rw [World.cell?_alloc_at _ _ _ _ rfl]; rfl, by rw [World.frozen?_alloc_at _ _ _ _ rfl], by rw [World.frozen?_alloc_at _ _ _ _ rfl]⟩

set_option maxRecDepth 100000 in
set_option maxHeartbeats 8000000 in
theorem core_WhenWeek_out (y m k d n V : Int) (E : Int) (hE : E ≠ 0)
    (GV : Hid (∀ (k d n : Int) (w : World), Calls Tryd.prog 5 #[.agg #[.int .i64 k, .int .i64 d, .int .i64 n]] w fun e w' => e = .returned (.agg #[.int .i64 k, .int .i64 d, .int .i64 n]) ∧ Below w.heap.size w w'))
    (C1 : Hid (∀ w : World, Cvl.Lens w → Calls Tryd.prog 4 #[.int .i64 y, .int .i64 m, .agg #[.int .i64 k, .int .i64 d, .int .i64 n]] w fun e w' => e = .returned (.tuple #[.int .i64 V, .int .i64 E]) ∧ Below w.heap.size w w'))
    (KN : Hid (∀ w : World, Cvl.Lens w → Calls Tryd.prog 6 #[] w fun e w' => e = .returned (.bool true) ∧ Below w.heap.size w w'))
    (w : World) (hL : Hid (Cvl.Lens w)) :
    Calls Tryd.prog 3 #[.int .i64 y, .int .i64 m, .agg #[.int .i64 k, .int .i64 d, .int .i64 n]] w fun e w' => e = .returned (.bool true) ∧ Below w.heap.size w w' := by
  have S0 : Hid (OnS w w.heap.size k d n (w.alloc (.cells #[.int .i64 k, .int .i64 d, .int .i64 n] 23))) := OnS.new w _ _ _ _
  have LL : Hid (∀ W : World, Below w.heap.size w W → Cvl.Lens W) := fun W hb => Lens_below hL.out hb (Lens_lt hL.out)
  clear hL
  have e1 : (E != 0) = true := bne_iff_ne.2 hE
  go_enter Tryd.func3, Tryd.ntmps3
  go_wp2_with fail
  refine (GV.out _ _ _ _).mono ?_
  rintro e w1 ⟨rfl, hb⟩
  have S1 : Hid (OnS w w.heap.size k d n w1) := S0.out.below hb
  clear hb S0
  go_wp2_with fail
  refine (C1.out _ (LL.out _ S1.out.2.2.2.2)).mono ?_
  rintro e w2 ⟨rfl, hb⟩
  have S2 : Hid (OnS w w.heap.size k d n w2) := S1.out.below hb
  clear hb S1
  obtain ⟨o1, o2, o3, o4, o5⟩ := id S2.out
  clear o5
  go_wp2_with fail
  refine (KN.out _ (LL.out _ (S2.out.2.2.2.2))).mono ?_
  rintro e w9 ⟨rfl, hb⟩
  have B9 : Hid (Below w.heap.size w w9) := (S2.out.2.2.2.2).trans (hb.mono (S2.out.2.2.2.2).size)
  clear hb
  go_wp2
  go_ret
  exact ⟨rfl, B9.out⟩

set_option maxRecDepth 100000 in
set_option maxHeartbeats 8000000 in
theorem core_WhenWeek_few (y m k d n V : Int) (hk : k < 2)
    (GV : Hid (∀ (k d n : Int) (w : World), Calls Tryd.prog 5 #[.agg #[.int .i64 k, .int .i64 d, .int .i64 n]] w fun e w' => e = .returned (.agg #[.int .i64 k, .int .i64 d, .int .i64 n]) ∧ Below w.heap.size w w'))
    (C1 : Hid (∀ w : World, Cvl.Lens w → Calls Tryd.prog 4 #[.int .i64 y, .int .i64 m, .agg #[.int .i64 k, .int .i64 d, .int .i64 n]] w fun e w' => e = .returned (.tuple #[.int .i64 V, .int .i64 0]) ∧ Below w.heap.size w w'))
    (KN : Hid (∀ w : World, Cvl.Lens w → Calls Tryd.prog 6 #[] w fun e w' => e = .returned (.bool true) ∧ Below w.heap.size w w'))
    (w : World) (hL : Hid (Cvl.Lens w)) :
    Calls Tryd.prog 3 #[.int .i64 y, .int .i64 m, .agg #[.int .i64 k, .int .i64 d, .int .i64 n]] w fun e w' => e = .returned (.bool true) ∧ Below w.heap.size w w' := by
  have S0 : Hid (OnS w w.heap.size k d n (w.alloc (.cells #[.int .i64 k, .int .i64 d, .int .i64 n] 23))) := OnS.new w _ _ _ _
  have LL : Hid (∀ W : World, Below w.heap.size w W → Cvl.Lens W) := fun W hb => Lens_below hL.out hb (Lens_lt hL.out)
  clear hL
  go_enter Tryd.func3, Tryd.ntmps3
  go_wp2_with fail
  refine (GV.out _ _ _ _).mono ?_
  rintro e w1 ⟨rfl, hb⟩
  have S1 : Hid (OnS w w.heap.size k d n w1) := S0.out.below hb
  clear hb S0
  go_wp2_with fail
  refine (C1.out _ (LL.out _ S1.out.2.2.2.2)).mono ?_
  rintro e w2 ⟨rfl, hb⟩
  have S2 : Hid (OnS w w.heap.size k d n w2) := S1.out.below hb
  clear hb S1
  obtain ⟨o1, o2, o3, o4, o5⟩ := id S2.out
  clear o5
  go_wp2_with fail
  refine (KN.out _ (LL.out _ (S2.out.2.2.2.2))).mono ?_
  rintro e w9 ⟨rfl, hb⟩
  have B9 : Hid (Below w.heap.size w w9) := (S2.out.2.2.2.2).trans (hb.mono (S2.out.2.2.2.2).size)
  clear hb
  go_wp2
  go_ret
  exact ⟨rfl, B9.out⟩

set_option maxRecDepth 100000 in
set_option maxHeartbeats 8000000 in
theorem core_WhenWeek_2ac (y m d n V : Int) (n1 : 1 ≤ n) (n2 : n ≤ 31) (v1 : -3000000000 ≤ V) (v2 : V ≤ 3000000000) (c1 : n + 7 ≤ 31) 
    (GV : Hid (∀ (k d n : Int) (w : World), Calls Tryd.prog 5 #[.agg #[.int .i64 k, .int .i64 d, .int .i64 n]] w fun e w' => e = .returned (.agg #[.int .i64 k, .int .i64 d, .int .i64 n]) ∧ Below w.heap.size w w'))
    (C1 : Hid (∀ w : World, Cvl.Lens w → Calls Tryd.prog 4 #[.int .i64 y, .int .i64 m, .agg #[.int .i64 2, .int .i64 d, .int .i64 n]] w fun e w' => e = .returned (.tuple #[.int .i64 V, .int .i64 0]) ∧ Below w.heap.size w w'))
    (C2 : Hid (∀ w : World, Cvl.Lens w → Calls Tryd.prog 4 #[.int .i64 y, .int .i64 m, .agg #[.int .i64 2, .int .i64 d, .int .i64 (n + 7)]] w fun e w' => e = .returned (.tuple #[.int .i64 (V + 7), .int .i64 0]) ∧ Below w.heap.size w w'))
    (KN : Hid (∀ w : World, Cvl.Lens w → Calls Tryd.prog 6 #[] w fun e w' => e = .returned (.bool true) ∧ Below w.heap.size w w'))
    (w : World) (hL : Hid (Cvl.Lens w)) :
    Calls Tryd.prog 3 #[.int .i64 y, .int .i64 m, .agg #[.int .i64 2, .int .i64 d, .int .i64 n]] w fun e w' => e = .returned (.bool true) ∧ Below w.heap.size w w' := by
  have S0 : Hid (OnS w w.heap.size 2 d n (w.alloc (.cells #[.int .i64 2, .int .i64 d, .int .i64 n] 23))) := OnS.new w _ _ _ _
  have LL : Hid (∀ W : World, Below w.heap.size w W → Cvl.Lens W) := fun W hb => Lens_below hL.out hb (Lens_lt hL.out)
  clear hL
  go_enter Tryd.func3, Tryd.ntmps3
  go_wp2_with fail
  refine (GV.out _ _ _ _).mono ?_
  rintro e w1 ⟨rfl, hb⟩
  have S1 : Hid (OnS w w.heap.size 2 d n w1) := S0.out.below hb
  clear hb S0
  go_wp2_with fail
  refine (C1.out _ (LL.out _ S1.out.2.2.2.2)).mono ?_
  rintro e w2 ⟨rfl, hb⟩
  have S2 : Hid (OnS w w.heap.size 2 d n w2) := S1.out.below hb
  clear hb S1
  obtain ⟨o1, o2, o3, o4, o5⟩ := id S2.out
  clear o5
  have X2 : Hid (XB w2.heap.size 2 d (n + 7) (w2.alloc (.cells #[.int .i64 2, .int .i64 d, .int .i64 (n + 7)] 23))) := XB.new w2 _ _ _ _
  have Y2 : Hid (OnS w w.heap.size 2 d n (w2.alloc (.cells #[.int .i64 2, .int .i64 d, .int .i64 (n + 7)] 23))) := S2.out.more _
  have lw : w.heap.size < w2.heap.size := o1
  go_wp2_with fail
  refine (GV.out _ _ _ _).mono ?_
  rintro e w3 ⟨rfl, hb⟩
  have X3 : Hid (XB w2.heap.size 2 d (n + 7) w3) := X2.out.below hb
  have Y3 : Hid (OnS w w.heap.size 2 d n w3) := Y2.out.below hb
  clear hb X2 Y2
  go_wp2_with fail
  refine (C2.out _ (LL.out _ Y3.out.2.2.2.2)).mono ?_
  rintro e w4 ⟨rfl, hb⟩
  have X4 : Hid (XB w2.heap.size 2 d (n + 7) w4) := X3.out.below hb
  have Y4 : Hid (OnS w w.heap.size 2 d n w4) := Y3.out.below hb
  clear hb X3 Y3 o1 o2 o3 o4
  obtain ⟨o1, o2, o3, o4, o5⟩ := id Y4.out
  obtain ⟨p1, p2, p3, p4, p5, p6⟩ := id X4.out
  clear o5
  go_wp2_with fail
  refine (KN.out _ (LL.out _ (Y4.out.2.2.2.2.setCell (Nat.le_of_lt lw) _))).mono ?_
  rintro e w9 ⟨rfl, hb⟩
  have B9 : Hid (Below w.heap.size w w9) := (Y4.out.2.2.2.2.setCell (Nat.le_of_lt lw) _).trans (hb.mono (Y4.out.2.2.2.2.setCell (Nat.le_of_lt lw) _).size)
  clear hb
  go_wp2
  go_ret
  exact ⟨rfl, B9.out⟩

set_option maxRecDepth 100000 in
set_option maxHeartbeats 8000000 in
theorem core_WhenWeek_2bc (y m d n V : Int) (n1 : 1 ≤ n) (n2 : n ≤ 31) (v1 : -3000000000 ≤ V) (v2 : V ≤ 3000000000) (c1 : ¬ n + 7 ≤ 31) 
    (GV : Hid (∀ (k d n : Int) (w : World), Calls Tryd.prog 5 #[.agg #[.int .i64 k, .int .i64 d, .int .i64 n]] w fun e w' => e = .returned (.agg #[.int .i64 k, .int .i64 d, .int .i64 n]) ∧ Below w.heap.size w w'))
    (C1 : Hid (∀ w : World, Cvl.Lens w → Calls Tryd.prog 4 #[.int .i64 y, .int .i64 m, .agg #[.int .i64 2, .int .i64 d, .int .i64 n]] w fun e w' => e = .returned (.tuple #[.int .i64 V, .int .i64 0]) ∧ Below w.heap.size w w'))
    (KN : Hid (∀ w : World, Cvl.Lens w → Calls Tryd.prog 6 #[] w fun e w' => e = .returned (.bool true) ∧ Below w.heap.size w w'))
    (w : World) (hL : Hid (Cvl.Lens w)) :
    Calls Tryd.prog 3 #[.int .i64 y, .int .i64 m, .agg #[.int .i64 2, .int .i64 d, .int .i64 n]] w fun e w' => e = .returned (.bool true) ∧ Below w.heap.size w w' := by
  have S0 : Hid (OnS w w.heap.size 2 d n (w.alloc (.cells #[.int .i64 2, .int .i64 d, .int .i64 n] 23))) := OnS.new w _ _ _ _
  have LL : Hid (∀ W : World, Below w.heap.size w W → Cvl.Lens W) := fun W hb => Lens_below hL.out hb (Lens_lt hL.out)
  clear hL
  go_enter Tryd.func3, Tryd.ntmps3
  go_wp2_with fail
  refine (GV.out _ _ _ _).mono ?_
  rintro e w1 ⟨rfl, hb⟩
  have S1 : Hid (OnS w w.heap.size 2 d n w1) := S0.out.below hb
  clear hb S0
  go_wp2_with fail
  refine (C1.out _ (LL.out _ S1.out.2.2.2.2)).mono ?_
  rintro e w2 ⟨rfl, hb⟩
  have S2 : Hid (OnS w w.heap.size 2 d n w2) := S1.out.below hb
  clear hb S1
  obtain ⟨o1, o2, o3, o4, o5⟩ := id S2.out
  clear o5
  have X2 : Hid (XB w2.heap.size 2 d (n + 7) (w2.alloc (.cells #[.int .i64 2, .int .i64 d, .int .i64 (n + 7)] 23))) := XB.new w2 _ _ _ _
  have Y2 : Hid (OnS w w.heap.size 2 d n (w2.alloc (.cells #[.int .i64 2, .int .i64 d, .int .i64 (n + 7)] 23))) := S2.out.more _
  have lw : w.heap.size < w2.heap.size := o1
  go_wp2_with fail
  refine (KN.out _ (LL.out _ (S2.out.2.2.2.2.alloc S2.out.2.2.2.2.size _))).mono ?_
  rintro e w9 ⟨rfl, hb⟩
  have B9 : Hid (Below w.heap.size w w9) := (S2.out.2.2.2.2.alloc S2.out.2.2.2.2.size _).trans (hb.mono (S2.out.2.2.2.2.alloc S2.out.2.2.2.2.size _).size)
  clear hb
  go_wp2
  go_ret
  exact ⟨rfl, B9.out⟩

set_option maxRecDepth 100000 in
set_option maxHeartbeats 8000000 in
theorem core_WhenWeek_3ac (y m d n V : Int) (n1 : 1 ≤ n) (n2 : n ≤ 31) (v1 : -3000000000 ≤ V) (v2 : V ≤ 3000000000) (c1 : n + 7 ≤ 31) (c2 : n - 6 < 1)
    (GV : Hid (∀ (k d n : Int) (w : World), Calls Tryd.prog 5 #[.agg #[.int .i64 k, .int .i64 d, .int .i64 n]] w fun e w' => e = .returned (.agg #[.int .i64 k, .int .i64 d, .int .i64 n]) ∧ Below w.heap.size w w'))
    (C1 : Hid (∀ w : World, Cvl.Lens w → Calls Tryd.prog 4 #[.int .i64 y, .int .i64 m, .agg #[.int .i64 3, .int .i64 d, .int .i64 n]] w fun e w' => e = .returned (.tuple #[.int .i64 V, .int .i64 0]) ∧ Below w.heap.size w w'))
    (C2 : Hid (∀ w : World, Cvl.Lens w → Calls Tryd.prog 4 #[.int .i64 y, .int .i64 m, .agg #[.int .i64 3, .int .i64 d, .int .i64 (n + 7)]] w fun e w' => e = .returned (.tuple #[.int .i64 (V + 7), .int .i64 0]) ∧ Below w.heap.size w w'))
    (KN : Hid (∀ w : World, Cvl.Lens w → Calls Tryd.prog 6 #[] w fun e w' => e = .returned (.bool true) ∧ Below w.heap.size w w'))
    (w : World) (hL : Hid (Cvl.Lens w)) :
    Calls Tryd.prog 3 #[.int .i64 y, .int .i64 m, .agg #[.int .i64 3, .int .i64 d, .int .i64 n]] w fun e w' => e = .returned (.bool true) ∧ Below w.heap.size w w' := by
  have S0 : Hid (OnS w w.heap.size 3 d n (w.alloc (.cells #[.int .i64 3, .int .i64 d, .int .i64 n] 23))) := OnS.new w _ _ _ _
  have LL : Hid (∀ W : World, Below w.heap.size w W → Cvl.Lens W) := fun W hb => Lens_below hL.out hb (Lens_lt hL.out)
  clear hL
  go_enter Tryd.func3, Tryd.ntmps3
  go_wp2_with fail
  refine (GV.out _ _ _ _).mono ?_
  rintro e w1 ⟨rfl, hb⟩
  have S1 : Hid (OnS w w.heap.size 3 d n w1) := S0.out.below hb
  clear hb S0
  go_wp2_with fail
  refine (C1.out _ (LL.out _ S1.out.2.2.2.2)).mono ?_
  rintro e w2 ⟨rfl, hb⟩
  have S2 : Hid (OnS w w.heap.size 3 d n w2) := S1.out.below hb
  clear hb S1
  obtain ⟨o1, o2, o3, o4, o5⟩ := id S2.out
  clear o5
  have X2 : Hid (XB w2.heap.size 3 d (n + 7) (w2.alloc (.cells #[.int .i64 3, .int .i64 d, .int .i64 (n + 7)] 23))) := XB.new w2 _ _ _ _
  have Y2 : Hid (OnS w w.heap.size 3 d n (w2.alloc (.cells #[.int .i64 3, .int .i64 d, .int .i64 (n + 7)] 23))) := S2.out.more _
  have lw : w.heap.size < w2.heap.size := o1
  go_wp2_with fail
  refine (GV.out _ _ _ _).mono ?_
  rintro e w3 ⟨rfl, hb⟩
  have X3 : Hid (XB w2.heap.size 3 d (n + 7) w3) := X2.out.below hb
  have Y3 : Hid (OnS w w.heap.size 3 d n w3) := Y2.out.below hb
  clear hb X2 Y2
  go_wp2_with fail
  refine (C2.out _ (LL.out _ Y3.out.2.2.2.2)).mono ?_
  rintro e w4 ⟨rfl, hb⟩
  have X4 : Hid (XB w2.heap.size 3 d (n + 7) w4) := X3.out.below hb
  have Y4 : Hid (OnS w w.heap.size 3 d n w4) := Y3.out.below hb
  clear hb X3 Y3 o1 o2 o3 o4
  obtain ⟨o1, o2, o3, o4, o5⟩ := id Y4.out
  obtain ⟨p1, p2, p3, p4, p5, p6⟩ := id X4.out
  clear o5
  go_wp2_with fail
  refine (KN.out _ (LL.out _ (Y4.out.2.2.2.2.setCell (Nat.le_of_lt lw) _))).mono ?_
  rintro e w9 ⟨rfl, hb⟩
  have B9 : Hid (Below w.heap.size w w9) := (Y4.out.2.2.2.2.setCell (Nat.le_of_lt lw) _).trans (hb.mono (Y4.out.2.2.2.2.setCell (Nat.le_of_lt lw) _).size)
  clear hb
  go_wp2
  go_ret
  exact ⟨rfl, B9.out⟩

set_option maxRecDepth 100000 in
set_option maxHeartbeats 8000000 in
theorem core_WhenWeek_3ad (y m d n V : Int) (n1 : 1 ≤ n) (n2 : n ≤ 31) (v1 : -3000000000 ≤ V) (v2 : V ≤ 3000000000) (c1 : n + 7 ≤ 31) (c2 : ¬ n - 6 < 1)
    (GV : Hid (∀ (k d n : Int) (w : World), Calls Tryd.prog 5 #[.agg #[.int .i64 k, .int .i64 d, .int .i64 n]] w fun e w' => e = .returned (.agg #[.int .i64 k, .int .i64 d, .int .i64 n]) ∧ Below w.heap.size w w'))
    (C1 : Hid (∀ w : World, Cvl.Lens w → Calls Tryd.prog 4 #[.int .i64 y, .int .i64 m, .agg #[.int .i64 3, .int .i64 d, .int .i64 n]] w fun e w' => e = .returned (.tuple #[.int .i64 V, .int .i64 0]) ∧ Below w.heap.size w w'))
    (C2 : Hid (∀ w : World, Cvl.Lens w → Calls Tryd.prog 4 #[.int .i64 y, .int .i64 m, .agg #[.int .i64 3, .int .i64 d, .int .i64 (n + 7)]] w fun e w' => e = .returned (.tuple #[.int .i64 (V + 7), .int .i64 0]) ∧ Below w.heap.size w w'))
    (C3 : Hid (∀ w : World, Cvl.Lens w → Calls Tryd.prog 4 #[.int .i64 y, .int .i64 m, .agg #[.int .i64 2, .int .i64 d, .int .i64 (n - 6)]] w fun e w' => e = .returned (.tuple #[.int .i64 V, .int .i64 0]) ∧ Below w.heap.size w w'))
    (KN : Hid (∀ w : World, Cvl.Lens w → Calls Tryd.prog 6 #[] w fun e w' => e = .returned (.bool true) ∧ Below w.heap.size w w'))
    (w : World) (hL : Hid (Cvl.Lens w)) :
    Calls Tryd.prog 3 #[.int .i64 y, .int .i64 m, .agg #[.int .i64 3, .int .i64 d, .int .i64 n]] w fun e w' => e = .returned (.bool true) ∧ Below w.heap.size w w' := by
  have S0 : Hid (OnS w w.heap.size 3 d n (w.alloc (.cells #[.int .i64 3, .int .i64 d, .int .i64 n] 23))) := OnS.new w _ _ _ _
  have LL : Hid (∀ W : World, Below w.heap.size w W → Cvl.Lens W) := fun W hb => Lens_below hL.out hb (Lens_lt hL.out)
  clear hL
  go_enter Tryd.func3, Tryd.ntmps3
  go_wp2_with fail
  refine (GV.out _ _ _ _).mono ?_
  rintro e w1 ⟨rfl, hb⟩
  have S1 : Hid (OnS w w.heap.size 3 d n w1) := S0.out.below hb
  clear hb S0
  go_wp2_with fail
  refine (C1.out _ (LL.out _ S1.out.2.2.2.2)).mono ?_
  rintro e w2 ⟨rfl, hb⟩
  have S2 : Hid (OnS w w.heap.size 3 d n w2) := S1.out.below hb
  clear hb S1
  obtain ⟨o1, o2, o3, o4, o5⟩ := id S2.out
  clear o5
  have X2 : Hid (XB w2.heap.size 3 d (n + 7) (w2.alloc (.cells #[.int .i64 3, .int .i64 d, .int .i64 (n + 7)] 23))) := XB.new w2 _ _ _ _
  have Y2 : Hid (OnS w w.heap.size 3 d n (w2.alloc (.cells #[.int .i64 3, .int .i64 d, .int .i64 (n + 7)] 23))) := S2.out.more _
  have lw : w.heap.size < w2.heap.size := o1
  go_wp2_with fail
  refine (GV.out _ _ _ _).mono ?_
  rintro e w3 ⟨rfl, hb⟩
  have X3 : Hid (XB w2.heap.size 3 d (n + 7) w3) := X2.out.below hb
  have Y3 : Hid (OnS w w.heap.size 3 d n w3) := Y2.out.below hb
  clear hb X2 Y2
  go_wp2_with fail
  refine (C2.out _ (LL.out _ Y3.out.2.2.2.2)).mono ?_
  rintro e w4 ⟨rfl, hb⟩
  have X4 : Hid (XB w2.heap.size 3 d (n + 7) w4) := X3.out.below hb
  have Y4 : Hid (OnS w w.heap.size 3 d n w4) := Y3.out.below hb
  clear hb X3 Y3 o1 o2 o3 o4
  obtain ⟨o1, o2, o3, o4, o5⟩ := id Y4.out
  obtain ⟨p1, p2, p3, p4, p5, p6⟩ := id X4.out
  clear o5
  go_wp2_with fail
  refine (GV.out _ _ _ _).mono ?_
  rintro e w5 ⟨rfl, hb⟩
  have B5 : Hid (BelS w w5) := BelS.below (w := w) ((Y4.out.2.2.2.2.setCell (Nat.le_of_lt lw) _).setCell (Nat.le_of_lt lw) _) hb
  clear hb
  go_wp2_with fail
  refine (C3.out _ (LL.out _ B5.out)).mono ?_
  rintro e w6 ⟨rfl, hb⟩
  have B6 : Hid (BelS w w6) := B5.out.below hb
  clear hb B5
  go_wp2_with fail
  refine (KN.out _ (LL.out _ (BelS.out B6.out))).mono ?_
  rintro e w9 ⟨rfl, hb⟩
  have B9 : Hid (Below w.heap.size w w9) := (BelS.out B6.out).trans (hb.mono (BelS.out B6.out).size)
  clear hb
  go_wp2
  go_ret
  exact ⟨rfl, B9.out⟩

set_option maxRecDepth 100000 in
set_option maxHeartbeats 8000000 in
theorem core_WhenWeek_3bd (y m d n V : Int) (n1 : 1 ≤ n) (n2 : n ≤ 31) (v1 : -3000000000 ≤ V) (v2 : V ≤ 3000000000) (c1 : ¬ n + 7 ≤ 31) (c2 : ¬ n - 6 < 1)
    (GV : Hid (∀ (k d n : Int) (w : World), Calls Tryd.prog 5 #[.agg #[.int .i64 k, .int .i64 d, .int .i64 n]] w fun e w' => e = .returned (.agg #[.int .i64 k, .int .i64 d, .int .i64 n]) ∧ Below w.heap.size w w'))
    (C1 : Hid (∀ w : World, Cvl.Lens w → Calls Tryd.prog 4 #[.int .i64 y, .int .i64 m, .agg #[.int .i64 3, .int .i64 d, .int .i64 n]] w fun e w' => e = .returned (.tuple #[.int .i64 V, .int .i64 0]) ∧ Below w.heap.size w w'))
    (C3 : Hid (∀ w : World, Cvl.Lens w → Calls Tryd.prog 4 #[.int .i64 y, .int .i64 m, .agg #[.int .i64 2, .int .i64 d, .int .i64 (n - 6)]] w fun e w' => e = .returned (.tuple #[.int .i64 V, .int .i64 0]) ∧ Below w.heap.size w w'))
    (KN : Hid (∀ w : World, Cvl.Lens w → Calls Tryd.prog 6 #[] w fun e w' => e = .returned (.bool true) ∧ Below w.heap.size w w'))
    (w : World) (hL : Hid (Cvl.Lens w)) :
    Calls Tryd.prog 3 #[.int .i64 y, .int .i64 m, .agg #[.int .i64 3, .int .i64 d, .int .i64 n]] w fun e w' => e = .returned (.bool true) ∧ Below w.heap.size w w' := by
  have S0 : Hid (OnS w w.heap.size 3 d n (w.alloc (.cells #[.int .i64 3, .int .i64 d, .int .i64 n] 23))) := OnS.new w _ _ _ _
  have LL : Hid (∀ W : World, Below w.heap.size w W → Cvl.Lens W) := fun W hb => Lens_below hL.out hb (Lens_lt hL.out)
  clear hL
  go_enter Tryd.func3, Tryd.ntmps3
  go_wp2_with fail
  refine (GV.out _ _ _ _).mono ?_
  rintro e w1 ⟨rfl, hb⟩
  have S1 : Hid (OnS w w.heap.size 3 d n w1) := S0.out.below hb
  clear hb S0
  go_wp2_with fail
  refine (C1.out _ (LL.out _ S1.out.2.2.2.2)).mono ?_
  rintro e w2 ⟨rfl, hb⟩
  have S2 : Hid (OnS w w.heap.size 3 d n w2) := S1.out.below hb
  clear hb S1
  obtain ⟨o1, o2, o3, o4, o5⟩ := id S2.out
  clear o5
  have X2 : Hid (XB w2.heap.size 3 d (n + 7) (w2.alloc (.cells #[.int .i64 3, .int .i64 d, .int .i64 (n + 7)] 23))) := XB.new w2 _ _ _ _
  have Y2 : Hid (OnS w w.heap.size 3 d n (w2.alloc (.cells #[.int .i64 3, .int .i64 d, .int .i64 (n + 7)] 23))) := S2.out.more _
  have lw : w.heap.size < w2.heap.size := o1
  go_wp2_with fail
  refine (GV.out _ _ _ _).mono ?_
  rintro e w5 ⟨rfl, hb⟩
  have B5 : Hid (BelS w w5) := BelS.below (w := w) (S2.out.2.2.2.2.alloc S2.out.2.2.2.2.size _) hb
  clear hb
  go_wp2_with fail
  refine (C3.out _ (LL.out _ B5.out)).mono ?_
  rintro e w6 ⟨rfl, hb⟩
  have B6 : Hid (BelS w w6) := B5.out.below hb
  clear hb B5
  go_wp2_with fail
  refine (KN.out _ (LL.out _ (BelS.out B6.out))).mono ?_
  rintro e w9 ⟨rfl, hb⟩
  have B9 : Hid (Below w.heap.size w w9) := (BelS.out B6.out).trans (hb.mono (BelS.out B6.out).size)
  clear hb
  go_wp2
  go_ret
  exact ⟨rfl, B9.out⟩

end Go.Proofs.YtdkodkkbggdpbacDoor
