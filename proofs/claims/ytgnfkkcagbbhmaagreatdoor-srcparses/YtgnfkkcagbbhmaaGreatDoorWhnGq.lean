/- Contracts: when.ReadOn, whole. -/
import Derived.Test.YtgnfkkcagbbhmaaGreatDoorWhnFq
namespace Go.Proofs.YtgnfkkcagbbhmaaGreatDoor
open Go.RowKit
set_option linter.unusedVariables false

/-- the block of a result of three numbers, not yet written. -/
def ResB (w : World) (b : Nat) (W : World) : Prop :=
  b < W.heap.size ∧ W.cell? ⟨b, 0, none⟩ = some (.int .i64 0) ∧ W.cell? ⟨b, 1, none⟩ = some (.int .i64 0) ∧ W.cell? ⟨b, 2, none⟩ = some (.int .i64 0) ∧ W.frozen? ⟨b, 0, none⟩ = false ∧ W.frozen? ⟨b, 1, none⟩ = false ∧ W.frozen? ⟨b, 2, none⟩ = false ∧ Below w.heap.size w W
theorem ResB.below {w W W1 : World} {b : Nat} (h : ResB w b W) (hb : Below W.heap.size W W1) : ResB w b W1 :=
  ⟨Nat.lt_of_lt_of_le h.1 hb.size, (hb.cell (p := ⟨b, 0, none⟩) h.1).trans h.2.1, (hb.cell (p := ⟨b, 1, none⟩) h.1).trans h.2.2.1, (hb.cell (p := ⟨b, 2, none⟩) h.1).trans h.2.2.2.1, (hb.frozen (p := ⟨b, 0, none⟩) h.1).trans h.2.2.2.2.1, (hb.frozen (p := ⟨b, 1, none⟩) h.1).trans h.2.2.2.2.2.1, (hb.frozen (p := ⟨b, 2, none⟩) h.1).trans h.2.2.2.2.2.2.1, h.2.2.2.2.2.2.2.trans (hb.mono h.2.2.2.2.2.2.2.size)⟩
theorem ResB.new (w : World) (t : TypeId) : ResB w w.heap.size (w.alloc (.cells #[.int .i64 0, .int .i64 0, .int .i64 0] t)) :=
  ⟨by simp, by rw [World.cell?_alloc_at _ _ _ _ rfl]; rfl, by rw [World.cell?_alloc_at _ _ _ _ rfl]; rfl, by rw [World.cell?_alloc_at _ _ _ _ rfl]; rfl, by rw [World.frozen?_alloc_at _ _ _ _ rfl], by rw [World.frozen?_alloc_at _ _ _ _ rfl], by rw [World.frozen?_alloc_at _ _ _ _ rfl], (Below.refl _ _).alloc (Nat.le_refl _) _⟩
theorem adr_ne {b i j : Nat} (h : i ≠ j) : (⟨b, i, none⟩ : Addr) ≠ ⟨b, j, none⟩ := fun e => h (by cases e; rfl)
/-- what stands there, written. -/
theorem three_set {W : World} {b : Nat} {a c e x y z : Value} (h0 : W.cell? ⟨b, 0, none⟩ = some a) (h1 : W.cell? ⟨b, 1, none⟩ = some c) (h2 : W.cell? ⟨b, 2, none⟩ = some e) :
    (((W.setCell ⟨b, 0, none⟩ x).setCell ⟨b, 1, none⟩ y).setCell ⟨b, 2, none⟩ z).cell? ⟨b, 0, none⟩ = some x ∧ (((W.setCell ⟨b, 0, none⟩ x).setCell ⟨b, 1, none⟩ y).setCell ⟨b, 2, none⟩ z).cell? ⟨b, 1, none⟩ = some y ∧ (((W.setCell ⟨b, 0, none⟩ x).setCell ⟨b, 1, none⟩ y).setCell ⟨b, 2, none⟩ z).cell? ⟨b, 2, none⟩ = some z := by
  have k1 : (W.setCell ⟨b, 0, none⟩ x).cell? ⟨b, 1, none⟩ = some c := (World.cell?_setCell_other _ _ _ _ (adr_ne (by decide))).trans h1
  have k2 : ((W.setCell ⟨b, 0, none⟩ x).setCell ⟨b, 1, none⟩ y).cell? ⟨b, 2, none⟩ = some e := (World.cell?_setCell_other _ _ _ _ (adr_ne (by decide))).trans ((World.cell?_setCell_other _ _ _ _ (adr_ne (by decide))).trans h2)
  exact ⟨(World.cell?_setCell_other _ _ _ _ (adr_ne (by decide))).trans ((World.cell?_setCell_other _ _ _ _ (adr_ne (by decide))).trans (World.cell?_setCell_same _ _ _ h0)), (World.cell?_setCell_other _ _ _ _ (adr_ne (by decide))).trans (World.cell?_setCell_same _ _ _ k1), World.cell?_setCell_same _ _ _ k2⟩

set_option maxRecDepth 100000 in
set_option maxHeartbeats 4000000 in
theorem ron_nil (s : ByteArray) 
    (RF : Hid (∀ w : World, Calls Tryz.prog 187 #[.string s] w fun e w' => e = .returned (.nilIface) ∧ Below w.heap.size w w')) (w : World) :
    Calls Tryz.prog 186 #[.string s] w fun e w' => e = .returned (.tuple #[.agg #[.int .i64 0, .int .i64 0, .int .i64 0], .int .i64 21]) ∧ Below w.heap.size w w' := by
  have S0 : Hid (ResB w w.heap.size (w.alloc (.cells #[.int .i64 0, .int .i64 0, .int .i64 0] 82))) := ResB.new w _
  go_enter Tryz.func186, Tryz.ntmps186
  go_wp2_with fail
  refine (RF.out _).mono ?_
  rintro e w1 ⟨rfl, hb⟩
  have S1 : Hid (ResB w w.heap.size w1) := S0.out.below hb
  clear hb S0
  obtain ⟨q1, q2, q3, q4, q5, q6, q7, q8⟩ := S1.out
  obtain ⟨y1, y2, y3⟩ := three_set (x := .int .i64 0) (y := .int .i64 0) (z := .int .i64 0) q2 q3 q4
  have HB : Hid (Below w.heap.size w w1) := q8
  clear q8
  go_wp2
  refine bodyPost_ret (v := .tuple #[.agg #[.int .i64 0, .int .i64 0, .int .i64 0], .int .i64 21]) (by simp [results, Tryz.results186, go_sem, y1, y2, y3]) rfl ⟨rfl, ?_⟩
  exact ((HB.out.setCell (Nat.le_refl _) _).setCell (Nat.le_refl _) _).setCell (Nat.le_refl _) _

set_option maxRecDepth 100000 in
set_option maxHeartbeats 4000000 in
theorem ron_num (s : ByteArray) (n : Int) (h1 : 1 ≤ n) (h2 : n ≤ 31)
    (RF : Hid (∀ w : World, Calls Tryz.prog 187 #[.string s] w fun e w' => e = .returned (.iface 221 (.agg #[.int .i64 n])) ∧ Below w.heap.size w w')) (w : World) :
    Calls Tryz.prog 186 #[.string s] w fun e w' => e = .returned (.tuple #[.agg #[.int .i64 0, .int .i64 0, .int .i64 n], .int .i64 0]) ∧ Below w.heap.size w w' := by
  have C : Hid (∀ w : World, Calls Tryz.prog 207 #[.agg #[.int .i64 n]] w fun e w' => e = .returned (.bool true) ∧ Below w.heap.size w w') := canNum_yes n h1 h2
  have O : Hid (∀ w : World, Calls Tryz.prog 208 #[.agg #[.int .i64 n]] w fun e w' => e = .returned (.agg #[.int .i64 0, .int .i64 0, .int .i64 n]) ∧ Below w.heap.size w w') := onNum n
  have S0 : Hid (ResB w w.heap.size (w.alloc (.cells #[.int .i64 0, .int .i64 0, .int .i64 0] 82))) := ResB.new w _
  go_enter Tryz.func186, Tryz.ntmps186
  go_wp2_with fail
  refine (RF.out _).mono ?_
  rintro e w1 ⟨rfl, hb⟩
  have S1 : Hid (ResB w w.heap.size w1) := S0.out.below hb
  clear hb S0
  go_wp2_with fail
  refine (C.out _).mono ?_
  rintro e w2 ⟨rfl, hb⟩
  have S2 : Hid (ResB w w.heap.size w2) := S1.out.below hb
  clear hb S1
  go_wp2_with fail
  refine (O.out _).mono ?_
  rintro e w3 ⟨rfl, hb⟩
  have S3 : Hid (ResB w w.heap.size w3) := S2.out.below hb
  clear hb S2
  obtain ⟨q1, q2, q3, q4, q5, q6, q7, q8⟩ := S3.out
  obtain ⟨y1, y2, y3⟩ := three_set (x := .int .i64 0) (y := .int .i64 0) (z := .int .i64 n) q2 q3 q4
  have HB : Hid (Below w.heap.size w w3) := q8
  clear q8
  go_wp2
  refine bodyPost_ret (v := .tuple #[.agg #[.int .i64 0, .int .i64 0, .int .i64 n], .int .i64 0]) (by simp [results, Tryz.results186, go_sem, y1, y2, y3]) rfl ⟨rfl, ?_⟩
  exact ((HB.out.setCell (Nat.le_refl _) _).setCell (Nat.le_refl _) _).setCell (Nat.le_refl _) _

set_option maxRecDepth 100000 in
set_option maxHeartbeats 4000000 in
theorem ron_num_n (s : ByteArray) (n : Int) (h : n < 1 ∨ 31 < n)
    (RF : Hid (∀ w : World, Calls Tryz.prog 187 #[.string s] w fun e w' => e = .returned (.iface 221 (.agg #[.int .i64 n])) ∧ Below w.heap.size w w')) (w : World) :
    Calls Tryz.prog 186 #[.string s] w fun e w' => e = .returned (.tuple #[.agg #[.int .i64 0, .int .i64 0, .int .i64 0], .int .i64 21]) ∧ Below w.heap.size w w' := by
  have C : Hid (∀ w : World, Calls Tryz.prog 207 #[.agg #[.int .i64 n]] w fun e w' => e = .returned (.bool false) ∧ Below w.heap.size w w') := canNum_no n h
  have S0 : Hid (ResB w w.heap.size (w.alloc (.cells #[.int .i64 0, .int .i64 0, .int .i64 0] 82))) := ResB.new w _
  go_enter Tryz.func186, Tryz.ntmps186
  go_wp2_with fail
  refine (RF.out _).mono ?_
  rintro e w1 ⟨rfl, hb⟩
  have S1 : Hid (ResB w w.heap.size w1) := S0.out.below hb
  clear hb S0
  go_wp2_with fail
  refine (C.out _).mono ?_
  rintro e w2 ⟨rfl, hb⟩
  have S2 : Hid (ResB w w.heap.size w2) := S1.out.below hb
  clear hb S1
  obtain ⟨q1, q2, q3, q4, q5, q6, q7, q8⟩ := S2.out
  obtain ⟨y1, y2, y3⟩ := three_set (x := .int .i64 0) (y := .int .i64 0) (z := .int .i64 0) q2 q3 q4
  have HB : Hid (Below w.heap.size w w2) := q8
  clear q8
  go_wp2
  refine bodyPost_ret (v := .tuple #[.agg #[.int .i64 0, .int .i64 0, .int .i64 0], .int .i64 21]) (by simp [results, Tryz.results186, go_sem, y1, y2, y3]) rfl ⟨rfl, ?_⟩
  exact ((HB.out.setCell (Nat.le_refl _) _).setCell (Nat.le_refl _) _).setCell (Nat.le_refl _) _

set_option maxRecDepth 100000 in
set_option maxHeartbeats 4000000 in
theorem ron_fin (s : ByteArray) (d : Int) (h1 : 0 ≤ d) (h2 : d ≤ 6)
    (RF : Hid (∀ w : World, Calls Tryz.prog 187 #[.string s] w fun e w' => e = .returned (.iface 223 (.agg #[.int .i64 d])) ∧ Below w.heap.size w w')) (w : World) :
    Calls Tryz.prog 186 #[.string s] w fun e w' => e = .returned (.tuple #[.agg #[.int .i64 1, .int .i64 d, .int .i64 0], .int .i64 0]) ∧ Below w.heap.size w w' := by
  have C : Hid (∀ w : World, Calls Tryz.prog 210 #[.agg #[.int .i64 d]] w fun e w' => e = .returned (.bool true) ∧ Below w.heap.size w w') := canFin_yes d h1 h2
  have O : Hid (∀ w : World, Calls Tryz.prog 211 #[.agg #[.int .i64 d]] w fun e w' => e = .returned (.agg #[.int .i64 1, .int .i64 d, .int .i64 0]) ∧ Below w.heap.size w w') := onFin d
  have S0 : Hid (ResB w w.heap.size (w.alloc (.cells #[.int .i64 0, .int .i64 0, .int .i64 0] 82))) := ResB.new w _
  go_enter Tryz.func186, Tryz.ntmps186
  go_wp2_with fail
  refine (RF.out _).mono ?_
  rintro e w1 ⟨rfl, hb⟩
  have S1 : Hid (ResB w w.heap.size w1) := S0.out.below hb
  clear hb S0
  go_wp2_with fail
  refine (C.out _).mono ?_
  rintro e w2 ⟨rfl, hb⟩
  have S2 : Hid (ResB w w.heap.size w2) := S1.out.below hb
  clear hb S1
  go_wp2_with fail
  refine (O.out _).mono ?_
  rintro e w3 ⟨rfl, hb⟩
  have S3 : Hid (ResB w w.heap.size w3) := S2.out.below hb
  clear hb S2
  obtain ⟨q1, q2, q3, q4, q5, q6, q7, q8⟩ := S3.out
  obtain ⟨y1, y2, y3⟩ := three_set (x := .int .i64 1) (y := .int .i64 d) (z := .int .i64 0) q2 q3 q4
  have HB : Hid (Below w.heap.size w w3) := q8
  clear q8
  go_wp2
  refine bodyPost_ret (v := .tuple #[.agg #[.int .i64 1, .int .i64 d, .int .i64 0], .int .i64 0]) (by simp [results, Tryz.results186, go_sem, y1, y2, y3]) rfl ⟨rfl, ?_⟩
  exact ((HB.out.setCell (Nat.le_refl _) _).setCell (Nat.le_refl _) _).setCell (Nat.le_refl _) _

set_option maxRecDepth 100000 in
set_option maxHeartbeats 4000000 in
theorem ron_fin_n (s : ByteArray) (d : Int) (h : d < 0 ∨ 6 < d)
    (RF : Hid (∀ w : World, Calls Tryz.prog 187 #[.string s] w fun e w' => e = .returned (.iface 223 (.agg #[.int .i64 d])) ∧ Below w.heap.size w w')) (w : World) :
    Calls Tryz.prog 186 #[.string s] w fun e w' => e = .returned (.tuple #[.agg #[.int .i64 0, .int .i64 0, .int .i64 0], .int .i64 21]) ∧ Below w.heap.size w w' := by
  have C : Hid (∀ w : World, Calls Tryz.prog 210 #[.agg #[.int .i64 d]] w fun e w' => e = .returned (.bool false) ∧ Below w.heap.size w w') := canFin_no d h
  have S0 : Hid (ResB w w.heap.size (w.alloc (.cells #[.int .i64 0, .int .i64 0, .int .i64 0] 82))) := ResB.new w _
  go_enter Tryz.func186, Tryz.ntmps186
  go_wp2_with fail
  refine (RF.out _).mono ?_
  rintro e w1 ⟨rfl, hb⟩
  have S1 : Hid (ResB w w.heap.size w1) := S0.out.below hb
  clear hb S0
  go_wp2_with fail
  refine (C.out _).mono ?_
  rintro e w2 ⟨rfl, hb⟩
  have S2 : Hid (ResB w w.heap.size w2) := S1.out.below hb
  clear hb S1
  obtain ⟨q1, q2, q3, q4, q5, q6, q7, q8⟩ := S2.out
  obtain ⟨y1, y2, y3⟩ := three_set (x := .int .i64 0) (y := .int .i64 0) (z := .int .i64 0) q2 q3 q4
  have HB : Hid (Below w.heap.size w w2) := q8
  clear q8
  go_wp2
  refine bodyPost_ret (v := .tuple #[.agg #[.int .i64 0, .int .i64 0, .int .i64 0], .int .i64 21]) (by simp [results, Tryz.results186, go_sem, y1, y2, y3]) rfl ⟨rfl, ?_⟩
  exact ((HB.out.setCell (Nat.le_refl _) _).setCell (Nat.le_refl _) _).setCell (Nat.le_refl _) _

set_option maxRecDepth 100000 in
set_option maxHeartbeats 4000000 in
theorem ron_bes2 (s : ByteArray) (d n : Int) (h1 : 0 ≤ d) (h2 : d ≤ 6) (h3 : 1 ≤ n) (h4 : n ≤ 31)
    (RF : Hid (∀ w : World, Calls Tryz.prog 187 #[.string s] w fun e w' => e = .returned (.iface 225 (.agg #[.int .i64 d, .int .i64 n, .bool false])) ∧ Below w.heap.size w w')) (w : World) :
    Calls Tryz.prog 186 #[.string s] w fun e w' => e = .returned (.tuple #[.agg #[.int .i64 2, .int .i64 d, .int .i64 n], .int .i64 0]) ∧ Below w.heap.size w w' := by
  have C : Hid (∀ w : World, Calls Tryz.prog 213 #[.agg #[.int .i64 d, .int .i64 n, .bool false]] w fun e w' => e = .returned (.bool true) ∧ Below w.heap.size w w') := canBes_yes d n false h1 h2 h3 h4
  have O : Hid (∀ w : World, Calls Tryz.prog 214 #[.agg #[.int .i64 d, .int .i64 n, .bool false]] w fun e w' => e = .returned (.agg #[.int .i64 2, .int .i64 d, .int .i64 n]) ∧ Below w.heap.size w w') := onBesF d n
  have S0 : Hid (ResB w w.heap.size (w.alloc (.cells #[.int .i64 0, .int .i64 0, .int .i64 0] 82))) := ResB.new w _
  go_enter Tryz.func186, Tryz.ntmps186
  go_wp2_with fail
  refine (RF.out _).mono ?_
  rintro e w1 ⟨rfl, hb⟩
  have S1 : Hid (ResB w w.heap.size w1) := S0.out.below hb
  clear hb S0
  go_wp2_with fail
  refine (C.out _).mono ?_
  rintro e w2 ⟨rfl, hb⟩
  have S2 : Hid (ResB w w.heap.size w2) := S1.out.below hb
  clear hb S1
  go_wp2_with fail
  refine (O.out _).mono ?_
  rintro e w3 ⟨rfl, hb⟩
  have S3 : Hid (ResB w w.heap.size w3) := S2.out.below hb
  clear hb S2
  obtain ⟨q1, q2, q3, q4, q5, q6, q7, q8⟩ := S3.out
  obtain ⟨y1, y2, y3⟩ := three_set (x := .int .i64 2) (y := .int .i64 d) (z := .int .i64 n) q2 q3 q4
  have HB : Hid (Below w.heap.size w w3) := q8
  clear q8
  go_wp2
  refine bodyPost_ret (v := .tuple #[.agg #[.int .i64 2, .int .i64 d, .int .i64 n], .int .i64 0]) (by simp [results, Tryz.results186, go_sem, y1, y2, y3]) rfl ⟨rfl, ?_⟩
  exact ((HB.out.setCell (Nat.le_refl _) _).setCell (Nat.le_refl _) _).setCell (Nat.le_refl _) _

set_option maxRecDepth 100000 in
set_option maxHeartbeats 4000000 in
theorem ron_bes3 (s : ByteArray) (d n : Int) (h1 : 0 ≤ d) (h2 : d ≤ 6) (h3 : 1 ≤ n) (h4 : n ≤ 31)
    (RF : Hid (∀ w : World, Calls Tryz.prog 187 #[.string s] w fun e w' => e = .returned (.iface 225 (.agg #[.int .i64 d, .int .i64 n, .bool true])) ∧ Below w.heap.size w w')) (w : World) :
    Calls Tryz.prog 186 #[.string s] w fun e w' => e = .returned (.tuple #[.agg #[.int .i64 3, .int .i64 d, .int .i64 n], .int .i64 0]) ∧ Below w.heap.size w w' := by
  have C : Hid (∀ w : World, Calls Tryz.prog 213 #[.agg #[.int .i64 d, .int .i64 n, .bool true]] w fun e w' => e = .returned (.bool true) ∧ Below w.heap.size w w') := canBes_yes d n true h1 h2 h3 h4
  have O : Hid (∀ w : World, Calls Tryz.prog 214 #[.agg #[.int .i64 d, .int .i64 n, .bool true]] w fun e w' => e = .returned (.agg #[.int .i64 3, .int .i64 d, .int .i64 n]) ∧ Below w.heap.size w w') := onBesT d n
  have S0 : Hid (ResB w w.heap.size (w.alloc (.cells #[.int .i64 0, .int .i64 0, .int .i64 0] 82))) := ResB.new w _
  go_enter Tryz.func186, Tryz.ntmps186
  go_wp2_with fail
  refine (RF.out _).mono ?_
  rintro e w1 ⟨rfl, hb⟩
  have S1 : Hid (ResB w w.heap.size w1) := S0.out.below hb
  clear hb S0
  go_wp2_with fail
  refine (C.out _).mono ?_
  rintro e w2 ⟨rfl, hb⟩
  have S2 : Hid (ResB w w.heap.size w2) := S1.out.below hb
  clear hb S1
  go_wp2_with fail
  refine (O.out _).mono ?_
  rintro e w3 ⟨rfl, hb⟩
  have S3 : Hid (ResB w w.heap.size w3) := S2.out.below hb
  clear hb S2
  obtain ⟨q1, q2, q3, q4, q5, q6, q7, q8⟩ := S3.out
  obtain ⟨y1, y2, y3⟩ := three_set (x := .int .i64 3) (y := .int .i64 d) (z := .int .i64 n) q2 q3 q4
  have HB : Hid (Below w.heap.size w w3) := q8
  clear q8
  go_wp2
  refine bodyPost_ret (v := .tuple #[.agg #[.int .i64 3, .int .i64 d, .int .i64 n], .int .i64 0]) (by simp [results, Tryz.results186, go_sem, y1, y2, y3]) rfl ⟨rfl, ?_⟩
  exact ((HB.out.setCell (Nat.le_refl _) _).setCell (Nat.le_refl _) _).setCell (Nat.le_refl _) _

set_option maxRecDepth 100000 in
set_option maxHeartbeats 4000000 in
theorem ron_bes2_n (s : ByteArray) (d n : Int) (h : d < 0 ∨ 6 < d ∨ (0 ≤ d ∧ d ≤ 6 ∧ n < 1) ∨ (0 ≤ d ∧ d ≤ 6 ∧ 31 < n))
    (RF : Hid (∀ w : World, Calls Tryz.prog 187 #[.string s] w fun e w' => e = .returned (.iface 225 (.agg #[.int .i64 d, .int .i64 n, .bool false])) ∧ Below w.heap.size w w')) (w : World) :
    Calls Tryz.prog 186 #[.string s] w fun e w' => e = .returned (.tuple #[.agg #[.int .i64 0, .int .i64 0, .int .i64 0], .int .i64 21]) ∧ Below w.heap.size w w' := by
  have C : Hid (∀ w : World, Calls Tryz.prog 213 #[.agg #[.int .i64 d, .int .i64 n, .bool false]] w fun e w' => e = .returned (.bool false) ∧ Below w.heap.size w w') := canBes_no d n false h
  have S0 : Hid (ResB w w.heap.size (w.alloc (.cells #[.int .i64 0, .int .i64 0, .int .i64 0] 82))) := ResB.new w _
  go_enter Tryz.func186, Tryz.ntmps186
  go_wp2_with fail
  refine (RF.out _).mono ?_
  rintro e w1 ⟨rfl, hb⟩
  have S1 : Hid (ResB w w.heap.size w1) := S0.out.below hb
  clear hb S0
  go_wp2_with fail
  refine (C.out _).mono ?_
  rintro e w2 ⟨rfl, hb⟩
  have S2 : Hid (ResB w w.heap.size w2) := S1.out.below hb
  clear hb S1
  obtain ⟨q1, q2, q3, q4, q5, q6, q7, q8⟩ := S2.out
  obtain ⟨y1, y2, y3⟩ := three_set (x := .int .i64 0) (y := .int .i64 0) (z := .int .i64 0) q2 q3 q4
  have HB : Hid (Below w.heap.size w w2) := q8
  clear q8
  go_wp2
  refine bodyPost_ret (v := .tuple #[.agg #[.int .i64 0, .int .i64 0, .int .i64 0], .int .i64 21]) (by simp [results, Tryz.results186, go_sem, y1, y2, y3]) rfl ⟨rfl, ?_⟩
  exact ((HB.out.setCell (Nat.le_refl _) _).setCell (Nat.le_refl _) _).setCell (Nat.le_refl _) _

set_option maxRecDepth 100000 in
set_option maxHeartbeats 4000000 in
theorem ron_bes3_n (s : ByteArray) (d n : Int) (h : d < 0 ∨ 6 < d ∨ (0 ≤ d ∧ d ≤ 6 ∧ n < 1) ∨ (0 ≤ d ∧ d ≤ 6 ∧ 31 < n))
    (RF : Hid (∀ w : World, Calls Tryz.prog 187 #[.string s] w fun e w' => e = .returned (.iface 225 (.agg #[.int .i64 d, .int .i64 n, .bool true])) ∧ Below w.heap.size w w')) (w : World) :
    Calls Tryz.prog 186 #[.string s] w fun e w' => e = .returned (.tuple #[.agg #[.int .i64 0, .int .i64 0, .int .i64 0], .int .i64 21]) ∧ Below w.heap.size w w' := by
  have C : Hid (∀ w : World, Calls Tryz.prog 213 #[.agg #[.int .i64 d, .int .i64 n, .bool true]] w fun e w' => e = .returned (.bool false) ∧ Below w.heap.size w w') := canBes_no d n true h
  have S0 : Hid (ResB w w.heap.size (w.alloc (.cells #[.int .i64 0, .int .i64 0, .int .i64 0] 82))) := ResB.new w _
  go_enter Tryz.func186, Tryz.ntmps186
  go_wp2_with fail
  refine (RF.out _).mono ?_
  rintro e w1 ⟨rfl, hb⟩
  have S1 : Hid (ResB w w.heap.size w1) := S0.out.below hb
  clear hb S0
  go_wp2_with fail
  refine (C.out _).mono ?_
  rintro e w2 ⟨rfl, hb⟩
  have S2 : Hid (ResB w w.heap.size w2) := S1.out.below hb
  clear hb S1
  obtain ⟨q1, q2, q3, q4, q5, q6, q7, q8⟩ := S2.out
  obtain ⟨y1, y2, y3⟩ := three_set (x := .int .i64 0) (y := .int .i64 0) (z := .int .i64 0) q2 q3 q4
  have HB : Hid (Below w.heap.size w w2) := q8
  clear q8
  go_wp2
  refine bodyPost_ret (v := .tuple #[.agg #[.int .i64 0, .int .i64 0, .int .i64 0], .int .i64 21]) (by simp [results, Tryz.results186, go_sem, y1, y2, y3]) rfl ⟨rfl, ?_⟩
  exact ((HB.out.setCell (Nat.le_refl _) _).setCell (Nat.le_refl _) _).setCell (Nat.le_refl _) _

/-- what a form's reading comes to. -/
def roV (k d n : Int) : Value := if okOn k d n then onV k d n else onV 0 0 0
def roE (k d n : Int) : Int := if okOn k d n then 0 else 21
theorem readOn_form (s : ByteArray) (k d n : Int) (hk : (k = 0 ∧ d = 0) ∨ (k = 1 ∧ n = 0) ∨ k = 2 ∨ k = 3)
    (RF : Hid (∀ w : World, Calls Tryz.prog 187 #[.string s] w fun e w' => e = .returned (formV k d n) ∧ Below w.heap.size w w')) (w : World) :
    Calls Tryz.prog 186 #[.string s] w fun e w' => e = .returned (.tuple #[roV k d n, .int .i64 (roE k d n)]) ∧ Below w.heap.size w w' := by
  unfold roV roE
  by_cases ho : okOn k d n
  · rw [if_pos ho, if_pos ho]
    rcases ho with ⟨rfl, h1, h2, rfl⟩ | ⟨rfl, h1, h2, rfl⟩ | ⟨rfl | rfl, h1, h2, h3, h4⟩
    · exact ron_num s n h1 h2 RF w
    · exact ron_fin s d h1 h2 RF w
    · exact ron_bes2 s d n h1 h2 h3 h4 RF w
    · exact ron_bes3 s d n h1 h2 h3 h4 RF w
  · rw [if_neg ho, if_neg ho]
    unfold okOn at ho
    rcases hk with ⟨rfl, rfl⟩ | ⟨rfl, rfl⟩ | rfl | rfl
    · exact ron_num_n s n (by omega) RF w
    · exact ron_fin_n s d (by omega) RF w
    · exact ron_bes2_n s d n (by omega) RF w
    · exact ron_bes3_n s d n (by omega) RF w

end Go.Proofs.YtgnfkkcagbbhmaaGreatDoor
