/- Contracts: the reference's ReadOn, way by way. -/
import Derived.Test.YtgnfkkcagbbhmaaGreatDoorWhnQq
import Derived.Test.YtgnfkkcagbbhmaaGreatDoorWhnLq
import Derived.Deep.LoopGhost
namespace Go.Proofs.YtgnfkkcagbbhmaaGreatDoor
open Go.RowKit
set_option linter.unusedVariables false

/-- a block of a day that may be written, whole. -/
def XF (b : Nat) (k d n : Int) (W : World) : Prop :=
  b < W.heap.size ∧ W.cell? ⟨b, 0, none⟩ = some (.int .i64 k) ∧ W.cell? ⟨b, 1, none⟩ = some (.int .i64 d) ∧ W.cell? ⟨b, 2, none⟩ = some (.int .i64 n) ∧ W.frozen? ⟨b, 0, none⟩ = false ∧ W.frozen? ⟨b, 1, none⟩ = false ∧ W.frozen? ⟨b, 2, none⟩ = false
theorem XF.below {b : Nat} {k d n : Int} {W W1 : World} (h : XF b k d n W) (hb : Below W.heap.size W W1) : XF b k d n W1 :=
  ⟨Nat.lt_of_lt_of_le h.1 hb.size, (hb.cell (p := ⟨b, 0, none⟩) h.1).trans h.2.1, (hb.cell (p := ⟨b, 1, none⟩) h.1).trans h.2.2.1, (hb.cell (p := ⟨b, 2, none⟩) h.1).trans h.2.2.2.1, (hb.frozen (p := ⟨b, 0, none⟩) h.1).trans h.2.2.2.2.1, (hb.frozen (p := ⟨b, 1, none⟩) h.1).trans h.2.2.2.2.2.1, (hb.frozen (p := ⟨b, 2, none⟩) h.1).trans h.2.2.2.2.2.2⟩
theorem XF.new (w : World) (k d n : Int) (t : TypeId) : XF w.heap.size k d n (w.alloc (.cells #[.int .i64 k, .int .i64 d, .int .i64 n] t)) :=
  ⟨by simp, by rw [World.cell?_alloc_at _ _ _ _ rfl]; rfl, by rw [World.cell?_alloc_at _ _ _ _ rfl]; rfl, by rw [World.cell?_alloc_at _ _ _ _ rfl]; rfl, by rw [World.frozen?_alloc_at _ _ _ _ rfl], by rw [World.frozen?_alloc_at _ _ _ _ rfl], by rw [World.frozen?_alloc_at _ _ _ _ rfl]⟩
theorem XF.set {b : Nat} {k d n : Int} {W : World} (h : XF b k d n W) (k' d' n' : Int) : XF b k' d' n' (((W.setCell ⟨b, 0, none⟩ (.int .i64 k')).setCell ⟨b, 1, none⟩ (.int .i64 d')).setCell ⟨b, 2, none⟩ (.int .i64 n')) := by
  obtain ⟨h1, h2, h3, h4, h5, h6, h7⟩ := h
  obtain ⟨y1, y2, y3⟩ := three_set (x := .int .i64 k') (y := .int .i64 d') (z := .int .i64 n') h2 h3 h4
  exact ⟨by simpa [World.setCell] using h1, y1, y2, y3, by simpa using h5, by simpa using h6, by simpa using h7⟩
/-- the result's block and the day's. -/
def RdS (w : World) (b : Nat) (k d n : Int) (W : World) : Prop := ResB w w.heap.size W ∧ XF b k d n W ∧ w.heap.size < b
theorem RdS.below {w W W1 : World} {b : Nat} {k d n : Int} (h : RdS w b k d n W) (hb : Below W.heap.size W W1) : RdS w b k d n W1 := ⟨h.1.below hb, h.2.1.below hb, h.2.2⟩
theorem RdS.new {w W : World} (h : ResB w w.heap.size W) (k d n : Int) (t : TypeId) : RdS w W.heap.size k d n (W.alloc (.cells #[.int .i64 k, .int .i64 d, .int .i64 n] t)) :=
  ⟨h.below ((Below.refl _ _).alloc (Nat.le_refl _) _), XF.new W _ _ _ _, h.1⟩
theorem ResB.other {w W : World} {b : Nat} (h : ResB w w.heap.size W) (hb : w.heap.size < b) (i : Nat) (v : Value) : ResB w w.heap.size (W.setCell ⟨b, i, none⟩ v) := by
  obtain ⟨h1, h2, h3, h4, h5, h6, h7, h8⟩ := h
  have ne : ∀ j : Nat, (⟨w.heap.size, j, none⟩ : Addr) ≠ ⟨b, i, none⟩ := fun j e => by cases e; omega
  have ne' : ∀ j : Nat, (⟨b, i, none⟩ : Addr) ≠ ⟨w.heap.size, j, none⟩ := fun j e => ne j e.symm
  refine ⟨by simpa [World.setCell] using h1, ?_, ?_, ?_, by simpa using h5, by simpa using h6, by simpa using h7, h8.setCell (Nat.le_of_lt hb) _⟩
  · first | exact (World.cell?_setCell_other _ _ _ _ (ne 0)).trans h2 | exact (World.cell?_setCell_other _ _ _ _ (ne' 0)).trans h2
  · first | exact (World.cell?_setCell_other _ _ _ _ (ne 1)).trans h3 | exact (World.cell?_setCell_other _ _ _ _ (ne' 1)).trans h3
  · first | exact (World.cell?_setCell_other _ _ _ _ (ne 2)).trans h4 | exact (World.cell?_setCell_other _ _ _ _ (ne' 2)).trans h4
theorem RdS.set {w W : World} {b : Nat} {k d n : Int} (h : RdS w b k d n W) (k' d' n' : Int) : RdS w b k' d' n' (((W.setCell ⟨b, 0, none⟩ (.int .i64 k')).setCell ⟨b, 1, none⟩ (.int .i64 d')).setCell ⟨b, 2, none⟩ (.int .i64 n')) :=
  ⟨((h.1.other h.2.2 _ _).other h.2.2 _ _).other h.2.2 _ _, h.2.1.set k' d' n', h.2.2⟩

set_option maxRecDepth 100000 in
set_option maxHeartbeats 8000000 in
theorem ern_num_true (s : ByteArray) (N : Int) (h : 0 ≤ N)
    (SH : Hid (∀ w : World, Calls Tryz.prog 118 #[.string s] w fun e w' => e = .returned (.int .i64 N) ∧ Below w.heap.size w w'))
    (RO : Hid (∀ w : World, Calls Tryz.prog 65 #[.agg #[.int .i64 0, .int .i64 0, .int .i64 N]] w fun e w' => e = .returned (.bool true) ∧ Below w.heap.size w w'))
    (w : World) :
    Calls Tryz.prog 88 #[.string s] w fun e w' => e = .returned (.tuple #[.agg #[.int .i64 0, .int .i64 0, .int .i64 N], .int .i64 0]) ∧ Below w.heap.size w w' := by
  have S0 : Hid (ResB w w.heap.size (w.alloc (.cells #[.int .i64 0, .int .i64 0, .int .i64 0] 67))) := ResB.new w _
  have h1 : ¬ N < 0 := by omega
  go_enter Tryz.func88, Tryz.ntmps88
  go_wp2_with fail
  refine (SH.out _).mono ?_
  rintro e w1 ⟨rfl, hb⟩
  have R1 : Hid (ResB w w.heap.size w1) := S0.out.below hb
  clear hb S0
  go_wp2_with fail
  refine (RO.out _).mono ?_
  rintro e w9 ⟨rfl, hb⟩
  have S9 : Hid (RdS w w1.heap.size 0 0 N w9) := (RdS.new R1.out 0 0 N 67).below hb
  clear hb
  obtain ⟨⟨q1, q2, q3, q4, q5, q6, q7, q8⟩, ⟨z1, z2, z3, z4, z5, z6, z7⟩, z8⟩ := id S9.out
  obtain ⟨y1, y2, y3⟩ := three_set (x := .int .i64 0) (y := .int .i64 0) (z := .int .i64 N) q2 q3 q4
  have HB : Hid (Below w.heap.size w w9) := q8
  clear q8
  go_wp2
  refine bodyPost_ret (v := .tuple #[.agg #[.int .i64 0, .int .i64 0, .int .i64 N], .int .i64 0]) (by simp [results, Tryz.results88, go_sem, y1, y2, y3]) rfl ⟨rfl, ?_⟩
  exact ((HB.out.setCell (Nat.le_refl _) _).setCell (Nat.le_refl _) _).setCell (Nat.le_refl _) _

set_option maxRecDepth 100000 in
set_option maxHeartbeats 8000000 in
theorem ern_fin_true (s : ByteArray) (N : Int) (d : Int) (h : N < 0) (hz : 4 < s.size) (hz2 : s.size ≤ 140737488351232)
    (SH : Hid (∀ w : World, Calls Tryz.prog 118 #[.string s] w fun e w' => e = .returned (.int .i64 N) ∧ Below w.heap.size w w'))
    (SA : Hid (∀ w : World, Calls Tryz.prog 54 #[.string (s.extract 0 4), .string ⟨#[108, 97, 115, 116]⟩] w fun e w' => e = .returned (.bool true) ∧ Below w.heap.size w w'))
    (DY : Hid (∀ w : World, Calls Tryz.prog 119 #[.string (s.extract 4 s.size)] w fun e w' => e = .returned (.int .i64 d) ∧ Below w.heap.size w w'))
    (RO : Hid (∀ w : World, Calls Tryz.prog 65 #[.agg #[.int .i64 1, .int .i64 d, .int .i64 0]] w fun e w' => e = .returned (.bool true) ∧ Below w.heap.size w w'))
    (w : World) :
    Calls Tryz.prog 88 #[.string s] w fun e w' => e = .returned (.tuple #[.agg #[.int .i64 1, .int .i64 d, .int .i64 0], .int .i64 0]) ∧ Below w.heap.size w w' := by
  have S0 : Hid (ResB w w.heap.size (w.alloc (.cells #[.int .i64 0, .int .i64 0, .int .i64 0] 67))) := ResB.new w _
  have h2 : (4 : Int) < (s.size : Int) := by omega
  go_enter Tryz.func88, Tryz.ntmps88
  go_wp2_with fail
  refine (SH.out _).mono ?_
  rintro e w1 ⟨rfl, hb⟩
  have R1 : Hid (ResB w w.heap.size w1) := S0.out.below hb
  clear hb S0
  have S1 : Hid (RdS w w1.heap.size (-1) 0 0 (w1.alloc (.cells #[.int .i64 (-1), .int .i64 0, .int .i64 0] 67))) := RdS.new R1.out _ _ _ _
  go_wp2_with fail
  refine (SA.out _).mono ?_
  rintro e w2 ⟨rfl, hb⟩
  have S2 : Hid (RdS w w1.heap.size (-1) 0 0 w2) := S1.out.below hb
  clear hb S1
  go_wp2_with fail
  refine (DY.out _).mono ?_
  rintro e w3 ⟨rfl, hb⟩
  have S3 : Hid (RdS w w1.heap.size (-1) 0 0 w3) := S2.out.below hb
  clear hb S2
  obtain ⟨_, ⟨x1, x2, x3, x4, x5, x6, x7⟩, x8⟩ := id S3.out
  go_wp2_with fail
  refine (RO.out _).mono ?_
  rintro e w9 ⟨rfl, hb⟩
  have S9 : Hid (RdS w w1.heap.size 1 d 0 w9) := (S3.out.set 1 d 0).below hb
  clear hb
  obtain ⟨⟨q1, q2, q3, q4, q5, q6, q7, q8⟩, ⟨z1, z2, z3, z4, z5, z6, z7⟩, z8⟩ := id S9.out
  obtain ⟨y1, y2, y3⟩ := three_set (x := .int .i64 1) (y := .int .i64 d) (z := .int .i64 0) q2 q3 q4
  have HB : Hid (Below w.heap.size w w9) := q8
  clear q8
  go_wp2
  refine bodyPost_ret (v := .tuple #[.agg #[.int .i64 1, .int .i64 d, .int .i64 0], .int .i64 0]) (by simp [results, Tryz.results88, go_sem, y1, y2, y3]) rfl ⟨rfl, ?_⟩
  exact ((HB.out.setCell (Nat.le_refl _) _).setCell (Nat.le_refl _) _).setCell (Nat.le_refl _) _

set_option maxRecDepth 100000 in
set_option maxHeartbeats 8000000 in
theorem ern_num_false (s : ByteArray) (N : Int) (h : 0 ≤ N)
    (SH : Hid (∀ w : World, Calls Tryz.prog 118 #[.string s] w fun e w' => e = .returned (.int .i64 N) ∧ Below w.heap.size w w'))
    (RO : Hid (∀ w : World, Calls Tryz.prog 65 #[.agg #[.int .i64 0, .int .i64 0, .int .i64 N]] w fun e w' => e = .returned (.bool false) ∧ Below w.heap.size w w'))
    (w : World) :
    Calls Tryz.prog 88 #[.string s] w fun e w' => e = .returned (.tuple #[.agg #[.int .i64 0, .int .i64 0, .int .i64 0], .int .i64 21]) ∧ Below w.heap.size w w' := by
  have S0 : Hid (ResB w w.heap.size (w.alloc (.cells #[.int .i64 0, .int .i64 0, .int .i64 0] 67))) := ResB.new w _
  have h1 : ¬ N < 0 := by omega
  go_enter Tryz.func88, Tryz.ntmps88
  go_wp2_with fail
  refine (SH.out _).mono ?_
  rintro e w1 ⟨rfl, hb⟩
  have R1 : Hid (ResB w w.heap.size w1) := S0.out.below hb
  clear hb S0
  go_wp2_with fail
  refine (RO.out _).mono ?_
  rintro e w9 ⟨rfl, hb⟩
  have S9 : Hid (RdS w w1.heap.size 0 0 N w9) := (RdS.new R1.out 0 0 N 67).below hb
  clear hb
  obtain ⟨⟨q1, q2, q3, q4, q5, q6, q7, q8⟩, ⟨z1, z2, z3, z4, z5, z6, z7⟩, z8⟩ := id S9.out
  obtain ⟨y1, y2, y3⟩ := three_set (x := .int .i64 0) (y := .int .i64 0) (z := .int .i64 0) q2 q3 q4
  have HB : Hid (Below w.heap.size w w9) := q8
  clear q8
  go_wp2
  refine bodyPost_ret (v := .tuple #[.agg #[.int .i64 0, .int .i64 0, .int .i64 0], .int .i64 21]) (by simp [results, Tryz.results88, go_sem, y1, y2, y3]) rfl ⟨rfl, ?_⟩
  exact ((HB.out.setCell (Nat.le_refl _) _).setCell (Nat.le_refl _) _).setCell (Nat.le_refl _) _

set_option maxRecDepth 100000 in
set_option maxHeartbeats 8000000 in
theorem ern_fin_false (s : ByteArray) (N : Int) (d : Int) (h : N < 0) (hz : 4 < s.size) (hz2 : s.size ≤ 140737488351232)
    (SH : Hid (∀ w : World, Calls Tryz.prog 118 #[.string s] w fun e w' => e = .returned (.int .i64 N) ∧ Below w.heap.size w w'))
    (SA : Hid (∀ w : World, Calls Tryz.prog 54 #[.string (s.extract 0 4), .string ⟨#[108, 97, 115, 116]⟩] w fun e w' => e = .returned (.bool true) ∧ Below w.heap.size w w'))
    (DY : Hid (∀ w : World, Calls Tryz.prog 119 #[.string (s.extract 4 s.size)] w fun e w' => e = .returned (.int .i64 d) ∧ Below w.heap.size w w'))
    (RO : Hid (∀ w : World, Calls Tryz.prog 65 #[.agg #[.int .i64 1, .int .i64 d, .int .i64 0]] w fun e w' => e = .returned (.bool false) ∧ Below w.heap.size w w'))
    (w : World) :
    Calls Tryz.prog 88 #[.string s] w fun e w' => e = .returned (.tuple #[.agg #[.int .i64 0, .int .i64 0, .int .i64 0], .int .i64 21]) ∧ Below w.heap.size w w' := by
  have S0 : Hid (ResB w w.heap.size (w.alloc (.cells #[.int .i64 0, .int .i64 0, .int .i64 0] 67))) := ResB.new w _
  have h2 : (4 : Int) < (s.size : Int) := by omega
  go_enter Tryz.func88, Tryz.ntmps88
  go_wp2_with fail
  refine (SH.out _).mono ?_
  rintro e w1 ⟨rfl, hb⟩
  have R1 : Hid (ResB w w.heap.size w1) := S0.out.below hb
  clear hb S0
  have S1 : Hid (RdS w w1.heap.size (-1) 0 0 (w1.alloc (.cells #[.int .i64 (-1), .int .i64 0, .int .i64 0] 67))) := RdS.new R1.out _ _ _ _
  go_wp2_with fail
  refine (SA.out _).mono ?_
  rintro e w2 ⟨rfl, hb⟩
  have S2 : Hid (RdS w w1.heap.size (-1) 0 0 w2) := S1.out.below hb
  clear hb S1
  go_wp2_with fail
  refine (DY.out _).mono ?_
  rintro e w3 ⟨rfl, hb⟩
  have S3 : Hid (RdS w w1.heap.size (-1) 0 0 w3) := S2.out.below hb
  clear hb S2
  obtain ⟨_, ⟨x1, x2, x3, x4, x5, x6, x7⟩, x8⟩ := id S3.out
  go_wp2_with fail
  refine (RO.out _).mono ?_
  rintro e w9 ⟨rfl, hb⟩
  have S9 : Hid (RdS w w1.heap.size 1 d 0 w9) := (S3.out.set 1 d 0).below hb
  clear hb
  obtain ⟨⟨q1, q2, q3, q4, q5, q6, q7, q8⟩, ⟨z1, z2, z3, z4, z5, z6, z7⟩, z8⟩ := id S9.out
  obtain ⟨y1, y2, y3⟩ := three_set (x := .int .i64 0) (y := .int .i64 0) (z := .int .i64 0) q2 q3 q4
  have HB : Hid (Below w.heap.size w w9) := q8
  clear q8
  go_wp2
  refine bodyPost_ret (v := .tuple #[.agg #[.int .i64 0, .int .i64 0, .int .i64 0], .int .i64 21]) (by simp [results, Tryz.results88, go_sem, y1, y2, y3]) rfl ⟨rfl, ?_⟩
  exact ((HB.out.setCell (Nat.le_refl _) _).setCell (Nat.le_refl _) _).setCell (Nat.le_refl _) _

end Go.Proofs.YtgnfkkcagbbhmaaGreatDoor
