/- show.Right, Span, Date; law19's known and ShowSpans, over their callees. -/
import Derived.Test.YtmohhbgmbicklaaGreatDoorShPq
import Derived.Test.YtmohhbgmbicklaaGreatDoorDyYq
namespace Go.Proofs.YtmohhbgmbicklaaGreatDoor
open Go.RowKit
set_option linter.unusedVariables false

/-- both tables lie there: the months' lengths and the powers of ten. -/
def LT (w : World) : Prop := Cvl.Lens w ∧ Clk.Tab w
theorem LT.of {w : World} (h : LT w) : Hid (∀ W : World, Below w.heap.size w W → LT W) := fun W hb => ⟨(Dy.lens_of h.1).out W hb, h.2.below hb⟩
def stR (o r p : Int) : Bool := decide (0 ≤ o ∧ o ≤ 1) && (decide (0 ≤ r ∧ r ≤ 2) && decide (0 ≤ p ∧ p ≤ 2))

set_option maxRecDepth 100000 in
set_option maxHeartbeats 4000000 in
theorem isFrom_any (n a b : Int) (c : Bool) (hc : c = decide (a ≤ n ∧ n ≤ b)) (w : World) : Calls Tryz.prog 28 #[.int .i64 n, .int .i64 a, .int .i64 b] w fun r w' => r = .returned (.bool c) ∧ w' = w := by
  by_cases h1 : a ≤ n
  · by_cases h2 : n ≤ b
    · obtain rfl : c = true := by rw [hc]; exact decide_eq_true ⟨h1, h2⟩
      clear hc
      go_enter Tryz.func28, Tryz.ntmps28
      go_wp2
      go_ret
      exact ⟨rfl, rfl⟩
    · obtain rfl : c = false := by rw [hc]; exact decide_eq_false (fun q => h2 q.2)
      clear hc
      go_enter Tryz.func28, Tryz.ntmps28
      go_wp2
      go_ret
      exact ⟨rfl, rfl⟩
  · obtain rfl : c = false := by rw [hc]; exact decide_eq_false (fun q => h1 q.1)
    clear hc
    go_enter Tryz.func28, Tryz.ntmps28
    go_wp2
    go_ret
    exact ⟨rfl, rfl⟩

set_option maxRecDepth 100000 in
set_option maxHeartbeats 4000000 in
theorem rt_0 (o r p : Int)
    (F1 : Hid (∀ w : World, Calls Tryz.prog 28 #[.int .i64 o, .int .i64 0, .int .i64 1] w fun r' w' => r' = .returned (.bool false) ∧ w' = w))
    (w : World) :
    Calls Tryz.prog 10 #[.agg #[.int .i64 o, .int .i64 r, .int .i64 p]] w fun r' w' => r' = .returned (.bool false) ∧ Below w.heap.size w w' := by
  have K0 : Hid (BS w [(w.heap.size, [.int .i64 o, .int .i64 r, .int .i64 p])] (w.alloc (.cells #[.int .i64 o, .int .i64 r, .int .i64 p] 27))) := ((BS.start w).new [.int .i64 o, .int .i64 r, .int .i64 p] 27 rfl)
  go_enter Tryz.func10, Tryz.ntmps10
  go_wp2_with fail
  refine (F1.out _).mono ?_
  rintro e W1 ⟨rfl, rfl⟩
  go_wp2
  go_ret
  exact ⟨rfl, K0.out.1⟩


set_option maxRecDepth 100000 in
set_option maxHeartbeats 4000000 in
theorem rt_1 (o r p : Int)
    (F1 : Hid (∀ w : World, Calls Tryz.prog 28 #[.int .i64 o, .int .i64 0, .int .i64 1] w fun r' w' => r' = .returned (.bool true) ∧ w' = w))
    (F2 : Hid (∀ w : World, Calls Tryz.prog 28 #[.int .i64 r, .int .i64 0, .int .i64 2] w fun r' w' => r' = .returned (.bool false) ∧ w' = w))
    (w : World) :
    Calls Tryz.prog 10 #[.agg #[.int .i64 o, .int .i64 r, .int .i64 p]] w fun r' w' => r' = .returned (.bool false) ∧ Below w.heap.size w w' := by
  have K0 : Hid (BS w [(w.heap.size, [.int .i64 o, .int .i64 r, .int .i64 p])] (w.alloc (.cells #[.int .i64 o, .int .i64 r, .int .i64 p] 27))) := ((BS.start w).new [.int .i64 o, .int .i64 r, .int .i64 p] 27 rfl)
  go_enter Tryz.func10, Tryz.ntmps10
  go_wp2_with fail
  refine (F1.out _).mono ?_
  rintro e W1 ⟨rfl, rfl⟩
  go_wp2_with fail
  refine (F2.out _).mono ?_
  rintro e W2 ⟨rfl, rfl⟩
  go_wp2
  go_ret
  exact ⟨rfl, K0.out.1⟩


set_option maxRecDepth 100000 in
set_option maxHeartbeats 4000000 in
theorem rt_2 (o r p : Int) (c : Bool)
    (F1 : Hid (∀ w : World, Calls Tryz.prog 28 #[.int .i64 o, .int .i64 0, .int .i64 1] w fun r' w' => r' = .returned (.bool true) ∧ w' = w))
    (F2 : Hid (∀ w : World, Calls Tryz.prog 28 #[.int .i64 r, .int .i64 0, .int .i64 2] w fun r' w' => r' = .returned (.bool true) ∧ w' = w))
    (F3 : Hid (∀ w : World, Calls Tryz.prog 28 #[.int .i64 p, .int .i64 0, .int .i64 2] w fun r' w' => r' = .returned (.bool c) ∧ w' = w))
    (w : World) :
    Calls Tryz.prog 10 #[.agg #[.int .i64 o, .int .i64 r, .int .i64 p]] w fun r' w' => r' = .returned (.bool c) ∧ Below w.heap.size w w' := by
  have K0 : Hid (BS w [(w.heap.size, [.int .i64 o, .int .i64 r, .int .i64 p])] (w.alloc (.cells #[.int .i64 o, .int .i64 r, .int .i64 p] 27))) := ((BS.start w).new [.int .i64 o, .int .i64 r, .int .i64 p] 27 rfl)
  go_enter Tryz.func10, Tryz.ntmps10
  go_wp2_with fail
  refine (F1.out _).mono ?_
  rintro e W1 ⟨rfl, rfl⟩
  go_wp2_with fail
  refine (F2.out _).mono ?_
  rintro e W2 ⟨rfl, rfl⟩
  go_wp2_with fail
  refine (F3.out _).mono ?_
  rintro e W3 ⟨rfl, rfl⟩
  go_wp2
  go_ret
  exact ⟨rfl, K0.out.1⟩


set_option maxRecDepth 100000 in
set_option maxHeartbeats 4000000 in
theorem rrt_0 (o r p : Int)  (h0 : ¬ (0 ≤ o))
    (w : World) :
    Calls Tryz.prog 11 #[.agg #[.int .i64 o, .int .i64 r, .int .i64 p]] w fun r' w' => r' = .returned (.bool false) ∧ Below w.heap.size w w' := by
  have K0 : Hid (BS w [(w.heap.size, [.int .i64 o, .int .i64 r, .int .i64 p])] (w.alloc (.cells #[.int .i64 o, .int .i64 r, .int .i64 p] 27))) := ((BS.start w).new [.int .i64 o, .int .i64 r, .int .i64 p] 27 rfl)
  go_enter Tryz.func11, Tryz.ntmps11
  go_wp2
  go_ret
  exact ⟨rfl, K0.out.1⟩


set_option maxRecDepth 100000 in
set_option maxHeartbeats 4000000 in
theorem rrt_1 (o r p : Int) (h0 : 0 ≤ o) (h1 : ¬ (o ≤ 1))
    (w : World) :
    Calls Tryz.prog 11 #[.agg #[.int .i64 o, .int .i64 r, .int .i64 p]] w fun r' w' => r' = .returned (.bool false) ∧ Below w.heap.size w w' := by
  have K0 : Hid (BS w [(w.heap.size, [.int .i64 o, .int .i64 r, .int .i64 p])] (w.alloc (.cells #[.int .i64 o, .int .i64 r, .int .i64 p] 27))) := ((BS.start w).new [.int .i64 o, .int .i64 r, .int .i64 p] 27 rfl)
  go_enter Tryz.func11, Tryz.ntmps11
  go_wp2
  go_ret
  exact ⟨rfl, K0.out.1⟩


set_option maxRecDepth 100000 in
set_option maxHeartbeats 4000000 in
theorem rrt_2 (o r p : Int) (h0 : 0 ≤ o) (h1 : o ≤ 1) (h2 : ¬ (0 ≤ r))
    (w : World) :
    Calls Tryz.prog 11 #[.agg #[.int .i64 o, .int .i64 r, .int .i64 p]] w fun r' w' => r' = .returned (.bool false) ∧ Below w.heap.size w w' := by
  have K0 : Hid (BS w [(w.heap.size, [.int .i64 o, .int .i64 r, .int .i64 p])] (w.alloc (.cells #[.int .i64 o, .int .i64 r, .int .i64 p] 27))) := ((BS.start w).new [.int .i64 o, .int .i64 r, .int .i64 p] 27 rfl)
  go_enter Tryz.func11, Tryz.ntmps11
  go_wp2
  go_ret
  exact ⟨rfl, K0.out.1⟩


set_option maxRecDepth 100000 in
set_option maxHeartbeats 4000000 in
theorem rrt_3 (o r p : Int) (h0 : 0 ≤ o) (h1 : o ≤ 1) (h2 : 0 ≤ r) (h3 : ¬ (r ≤ 2))
    (w : World) :
    Calls Tryz.prog 11 #[.agg #[.int .i64 o, .int .i64 r, .int .i64 p]] w fun r' w' => r' = .returned (.bool false) ∧ Below w.heap.size w w' := by
  have K0 : Hid (BS w [(w.heap.size, [.int .i64 o, .int .i64 r, .int .i64 p])] (w.alloc (.cells #[.int .i64 o, .int .i64 r, .int .i64 p] 27))) := ((BS.start w).new [.int .i64 o, .int .i64 r, .int .i64 p] 27 rfl)
  go_enter Tryz.func11, Tryz.ntmps11
  go_wp2
  go_ret
  exact ⟨rfl, K0.out.1⟩


set_option maxRecDepth 100000 in
set_option maxHeartbeats 4000000 in
theorem rrt_4 (o r p : Int) (h0 : 0 ≤ o) (h1 : o ≤ 1) (h2 : 0 ≤ r) (h3 : r ≤ 2) (h4 : ¬ (0 ≤ p))
    (w : World) :
    Calls Tryz.prog 11 #[.agg #[.int .i64 o, .int .i64 r, .int .i64 p]] w fun r' w' => r' = .returned (.bool false) ∧ Below w.heap.size w w' := by
  have K0 : Hid (BS w [(w.heap.size, [.int .i64 o, .int .i64 r, .int .i64 p])] (w.alloc (.cells #[.int .i64 o, .int .i64 r, .int .i64 p] 27))) := ((BS.start w).new [.int .i64 o, .int .i64 r, .int .i64 p] 27 rfl)
  go_enter Tryz.func11, Tryz.ntmps11
  go_wp2
  go_ret
  exact ⟨rfl, K0.out.1⟩


set_option maxRecDepth 100000 in
set_option maxHeartbeats 4000000 in
theorem rrt_5 (o r p : Int) (h0 : 0 ≤ o) (h1 : o ≤ 1) (h2 : 0 ≤ r) (h3 : r ≤ 2) (h4 : 0 ≤ p) (h5 : ¬ (p ≤ 2))
    (w : World) :
    Calls Tryz.prog 11 #[.agg #[.int .i64 o, .int .i64 r, .int .i64 p]] w fun r' w' => r' = .returned (.bool false) ∧ Below w.heap.size w w' := by
  have K0 : Hid (BS w [(w.heap.size, [.int .i64 o, .int .i64 r, .int .i64 p])] (w.alloc (.cells #[.int .i64 o, .int .i64 r, .int .i64 p] 27))) := ((BS.start w).new [.int .i64 o, .int .i64 r, .int .i64 p] 27 rfl)
  go_enter Tryz.func11, Tryz.ntmps11
  go_wp2
  go_ret
  exact ⟨rfl, K0.out.1⟩


set_option maxRecDepth 100000 in
set_option maxHeartbeats 4000000 in
theorem rrt_6 (o r p : Int) (h0 : 0 ≤ o) (h1 : o ≤ 1) (h2 : 0 ≤ r) (h3 : r ≤ 2) (h4 : 0 ≤ p) (h5 : p ≤ 2)
    (w : World) :
    Calls Tryz.prog 11 #[.agg #[.int .i64 o, .int .i64 r, .int .i64 p]] w fun r' w' => r' = .returned (.bool true) ∧ Below w.heap.size w w' := by
  have K0 : Hid (BS w [(w.heap.size, [.int .i64 o, .int .i64 r, .int .i64 p])] (w.alloc (.cells #[.int .i64 o, .int .i64 r, .int .i64 p] 27))) := ((BS.start w).new [.int .i64 o, .int .i64 r, .int .i64 p] 27 rfl)
  go_enter Tryz.func11, Tryz.ntmps11
  go_wp2
  go_ret
  exact ⟨rfl, K0.out.1⟩


theorem right19 (o r p : Int) (w : World) : Calls Tryz.prog 10 #[.agg #[.int .i64 o, .int .i64 r, .int .i64 p]] w fun r' w' => r' = .returned (.bool (stR o r p)) ∧ Below w.heap.size w w' := by
  unfold stR
  cases h1 : decide (0 ≤ o ∧ o ≤ 1)
  · exact rt_0 o r p (fun w => isFrom_any o 0 1 false h1.symm w) w
  · cases h2 : decide (0 ≤ r ∧ r ≤ 2)
    · exact rt_1 o r p (fun w => isFrom_any o 0 1 true h1.symm w) (fun w => isFrom_any r 0 2 false h2.symm w) w
    · exact rt_2 o r p _ (fun w => isFrom_any o 0 1 true h1.symm w) (fun w => isFrom_any r 0 2 true h2.symm w) (fun w => isFrom_any p 0 2 _ rfl w) w
theorem rright19 (o r p : Int) (w : World) : Calls Tryz.prog 11 #[.agg #[.int .i64 o, .int .i64 r, .int .i64 p]] w fun r' w' => r' = .returned (.bool (stR o r p)) ∧ Below w.heap.size w w' := by
  have F : ∀ {b : Bool}, (b = true → False) → b = false := fun {b} h => by cases b; rfl; exact absurd rfl h
  by_cases h0 : 0 ≤ o
  · by_cases h1 : o ≤ 1
    · by_cases h2 : 0 ≤ r
      · by_cases h3 : r ≤ 2
        · by_cases h4 : 0 ≤ p
          · by_cases h5 : p ≤ 2
            · rw [show stR o r p = true by simp [stR, *]]; exact rrt_6 o r p h0 h1 h2 h3 h4 h5 w
            · rw [show stR o r p = false by simp [stR]; omega]; exact rrt_5 o r p h0 h1 h2 h3 h4 h5 w
          · rw [show stR o r p = false by simp [stR]; omega]; exact rrt_4 o r p h0 h1 h2 h3 h4 w
        · rw [show stR o r p = false by simp [stR]; omega]; exact rrt_3 o r p h0 h1 h2 h3 w
      · rw [show stR o r p = false by simp [stR]; omega]; exact rrt_2 o r p h0 h1 h2 w
    · rw [show stR o r p = false by simp [stR]; omega]; exact rrt_1 o r p h0 h1 w
  · rw [show stR o r p = false by simp [stR]; omega]; exact rrt_0 o r p h0 w
def endB (i : Int) : ByteArray := if i < 0 then ⟨#[45, 105, 110, 102, 105, 110, 105, 116, 121]⟩ else ⟨#[105, 110, 102, 105, 110, 105, 116, 121]⟩


set_option maxRecDepth 100000 in
set_option maxHeartbeats 4000000 in
theorem end_n (i : Int) (h : i < 0)
    (w : World) :
    Calls Tryz.prog 18 #[.int .i64 i] w fun r' w' => r' = .returned (.string ⟨#[45, 105, 110, 102, 105, 110, 105, 116, 121]⟩) ∧ Below w.heap.size w w' := by
  have K0 : Hid (BS w [] w) := (BS.start w)
  go_enter Tryz.func18, Tryz.ntmps18
  go_wp2
  go_ret
  exact ⟨rfl, K0.out.1⟩


set_option maxRecDepth 100000 in
set_option maxHeartbeats 4000000 in
theorem end_p (i : Int) (h : 0 < i)
    (w : World) :
    Calls Tryz.prog 18 #[.int .i64 i] w fun r' w' => r' = .returned (.string ⟨#[105, 110, 102, 105, 110, 105, 116, 121]⟩) ∧ Below w.heap.size w w' := by
  have h2 : ¬ i < 0 := by omega
  have K0 : Hid (BS w [] w) := (BS.start w)
  go_enter Tryz.func18, Tryz.ntmps18
  go_wp2
  go_ret
  exact ⟨rfl, K0.out.1⟩

theorem end_any (i : Int) (h : i ≠ 0) (w : World) : Calls Tryz.prog 18 #[.int .i64 i] w fun r' w' => r' = .returned (.string (endB i)) ∧ Below w.heap.size w w' := by
  unfold endB
  by_cases hi : i < 0
  · rw [if_pos hi]; exact end_n i hi w
  · rw [if_neg hi]; exact end_p i (by omega) w


set_option maxRecDepth 100000 in
set_option maxHeartbeats 4000000 in
theorem inf_n (i : Int) (h : i < 0)
    (w : World) :
    Calls Tryz.prog 22 #[.int .i64 i] w fun r' w' => r' = .returned (.string ⟨#[45, 105, 110, 102, 105, 110, 105, 116, 121]⟩) ∧ Below w.heap.size w w' := by
  have K0 : Hid (BS w [] w) := (BS.start w)
  go_enter Tryz.func22, Tryz.ntmps22
  go_wp2
  go_ret
  exact ⟨rfl, K0.out.1⟩


set_option maxRecDepth 100000 in
set_option maxHeartbeats 4000000 in
theorem inf_p (i : Int) (h : 0 < i)
    (w : World) :
    Calls Tryz.prog 22 #[.int .i64 i] w fun r' w' => r' = .returned (.string ⟨#[105, 110, 102, 105, 110, 105, 116, 121]⟩) ∧ Below w.heap.size w w' := by
  have h2 : ¬ i < 0 := by omega
  have K0 : Hid (BS w [] w) := (BS.start w)
  go_enter Tryz.func22, Tryz.ntmps22
  go_wp2
  go_ret
  exact ⟨rfl, K0.out.1⟩

theorem inf_any (i : Int) (h : i ≠ 0) (w : World) : Calls Tryz.prog 22 #[.int .i64 i] w fun r' w' => r' = .returned (.string (endB i)) ∧ Below w.heap.size w w' := by
  unfold endB
  by_cases hi : i < 0
  · rw [if_pos hi]; exact inf_n i hi w
  · rw [if_neg hi]; exact inf_p i (by omega) w


set_option maxRecDepth 100000 in
set_option maxHeartbeats 4000000 in
theorem sp_1 (M D U o r : Int) (X : ByteArray)
    (S1 : Hid (∀ w : World, Calls Tryz.prog 10 #[.agg #[.int .i64 o, .int .i64 r, .int .i64 1]] w fun r' w' => r' = .returned (.bool true) ∧ Below w.heap.size w w'))
    (P1 : Hid (∀ w : World, Calls Tryz.prog 34 #[.agg #[.int .i64 0, .int .i64 M, .int .i64 D, .int .i64 U]] w fun r' w' => r' = .returned (.bool true) ∧ Below w.heap.size w w'))
    (F : Hid (∀ w : World, Clk.Tab w → Calls Tryz.prog 35 #[.agg #[.int .i64 0, .int .i64 M, .int .i64 D, .int .i64 U]] w fun r' w' => r' = .returned (.string X) ∧ Below w.heap.size w w'))
    (w : World) (hL : Hid (∀ W : World, Below w.heap.size w W → Clk.Tab W)) :
    Calls Tryz.prog 15 #[.agg #[.int .i64 0, .int .i64 M, .int .i64 D, .int .i64 U], .agg #[.int .i64 o, .int .i64 r, .int .i64 1]] w fun r' w' => r' = .returned (.tuple #[.string X, .int .i64 0]) ∧ Below w.heap.size w w' := by
  have K0 : Hid (BS w [(w.heap.size + 1, [.int .i64 o, .int .i64 r, .int .i64 1]), (w.heap.size, [.int .i64 0, .int .i64 M, .int .i64 D, .int .i64 U])] ((w.alloc (.cells #[.int .i64 0, .int .i64 M, .int .i64 D, .int .i64 U] 40)).alloc (.cells #[.int .i64 o, .int .i64 r, .int .i64 1] 27))) := (((BS.start w).new [.int .i64 0, .int .i64 M, .int .i64 D, .int .i64 U] 40 rfl).new [.int .i64 o, .int .i64 r, .int .i64 1] 27 (by simp))
  go_enter Tryz.func15, Tryz.ntmps15
  go_wp2_with fail
  refine (S1.out _).mono ?_
  rintro e W1 ⟨rfl, hb⟩
  have K1 := bsb K0 hb
  clear hb K0
  obtain ⟨c1_0_0, c1_0_1, c1_0_2⟩ := (bo1 K1).c3
  obtain ⟨c1_1_0, c1_1_1, c1_1_2, c1_1_3⟩ := (bo2 K1).c4
  go_wp2_with fail
  refine (P1.out _).mono ?_
  rintro e W2 ⟨rfl, hb⟩
  have K2 := bsb K1 hb
  clear c1_0_0 c1_0_1 c1_0_2 c1_1_0 c1_1_1 c1_1_2 c1_1_3
  clear hb K1
  obtain ⟨c2_0_0, c2_0_1, c2_0_2⟩ := (bo1 K2).c3
  obtain ⟨c2_1_0, c2_1_1, c2_1_2, c2_1_3⟩ := (bo2 K2).c4
  go_wp2_with fail
  refine (F.out _ (hL.out _ K2.out.1)).mono ?_
  rintro e W3 ⟨rfl, hb⟩
  have K3 := bsb K2 hb
  clear c2_0_0 c2_0_1 c2_0_2 c2_1_0 c2_1_1 c2_1_2 c2_1_3
  clear hb K2
  obtain ⟨c3_0_0, c3_0_1, c3_0_2⟩ := (bo1 K3).c3
  obtain ⟨c3_1_0, c3_1_1, c3_1_2, c3_1_3⟩ := (bo2 K3).c4
  go_wp2
  go_ret2
  exact ⟨rfl, K3.out.1⟩


set_option maxRecDepth 100000 in
set_option maxHeartbeats 4000000 in
theorem sp_2 (M D U o r : Int) (X : ByteArray)
    (S1 : Hid (∀ w : World, Calls Tryz.prog 10 #[.agg #[.int .i64 o, .int .i64 r, .int .i64 2]] w fun r' w' => r' = .returned (.bool true) ∧ Below w.heap.size w w'))
    (P1 : Hid (∀ w : World, Calls Tryz.prog 34 #[.agg #[.int .i64 0, .int .i64 M, .int .i64 D, .int .i64 U]] w fun r' w' => r' = .returned (.bool true) ∧ Below w.heap.size w w'))
    (F : Hid (∀ w : World, Clk.Tab w → Calls Tryz.prog 36 #[.agg #[.int .i64 0, .int .i64 M, .int .i64 D, .int .i64 U]] w fun r' w' => r' = .returned (.string X) ∧ Below w.heap.size w w'))
    (w : World) (hL : Hid (∀ W : World, Below w.heap.size w W → Clk.Tab W)) :
    Calls Tryz.prog 15 #[.agg #[.int .i64 0, .int .i64 M, .int .i64 D, .int .i64 U], .agg #[.int .i64 o, .int .i64 r, .int .i64 2]] w fun r' w' => r' = .returned (.tuple #[.string X, .int .i64 0]) ∧ Below w.heap.size w w' := by
  have K0 : Hid (BS w [(w.heap.size + 1, [.int .i64 o, .int .i64 r, .int .i64 2]), (w.heap.size, [.int .i64 0, .int .i64 M, .int .i64 D, .int .i64 U])] ((w.alloc (.cells #[.int .i64 0, .int .i64 M, .int .i64 D, .int .i64 U] 40)).alloc (.cells #[.int .i64 o, .int .i64 r, .int .i64 2] 27))) := (((BS.start w).new [.int .i64 0, .int .i64 M, .int .i64 D, .int .i64 U] 40 rfl).new [.int .i64 o, .int .i64 r, .int .i64 2] 27 (by simp))
  go_enter Tryz.func15, Tryz.ntmps15
  go_wp2_with fail
  refine (S1.out _).mono ?_
  rintro e W1 ⟨rfl, hb⟩
  have K1 := bsb K0 hb
  clear hb K0
  obtain ⟨c1_0_0, c1_0_1, c1_0_2⟩ := (bo1 K1).c3
  obtain ⟨c1_1_0, c1_1_1, c1_1_2, c1_1_3⟩ := (bo2 K1).c4
  go_wp2_with fail
  refine (P1.out _).mono ?_
  rintro e W2 ⟨rfl, hb⟩
  have K2 := bsb K1 hb
  clear c1_0_0 c1_0_1 c1_0_2 c1_1_0 c1_1_1 c1_1_2 c1_1_3
  clear hb K1
  obtain ⟨c2_0_0, c2_0_1, c2_0_2⟩ := (bo1 K2).c3
  obtain ⟨c2_1_0, c2_1_1, c2_1_2, c2_1_3⟩ := (bo2 K2).c4
  go_wp2_with fail
  refine (F.out _ (hL.out _ K2.out.1)).mono ?_
  rintro e W3 ⟨rfl, hb⟩
  have K3 := bsb K2 hb
  clear c2_0_0 c2_0_1 c2_0_2 c2_1_0 c2_1_1 c2_1_2 c2_1_3
  clear hb K2
  obtain ⟨c3_0_0, c3_0_1, c3_0_2⟩ := (bo1 K3).c3
  obtain ⟨c3_1_0, c3_1_1, c3_1_2, c3_1_3⟩ := (bo2 K3).c4
  go_wp2
  go_ret2
  exact ⟨rfl, K3.out.1⟩


set_option maxRecDepth 100000 in
set_option maxHeartbeats 4000000 in
theorem sp_0 (M D U o r : Int) (X : ByteArray)
    (S1 : Hid (∀ w : World, Calls Tryz.prog 10 #[.agg #[.int .i64 o, .int .i64 r, .int .i64 0]] w fun r' w' => r' = .returned (.bool true) ∧ Below w.heap.size w w'))
    (P1 : Hid (∀ w : World, Calls Tryz.prog 34 #[.agg #[.int .i64 0, .int .i64 M, .int .i64 D, .int .i64 U]] w fun r' w' => r' = .returned (.bool true) ∧ Below w.heap.size w w'))
    (F : Hid (∀ w : World, Clk.Tab w → Calls Tryz.prog 37 #[.agg #[.int .i64 0, .int .i64 M, .int .i64 D, .int .i64 U]] w fun r' w' => r' = .returned (.string X) ∧ Below w.heap.size w w'))
    (w : World) (hL : Hid (∀ W : World, Below w.heap.size w W → Clk.Tab W)) :
    Calls Tryz.prog 15 #[.agg #[.int .i64 0, .int .i64 M, .int .i64 D, .int .i64 U], .agg #[.int .i64 o, .int .i64 r, .int .i64 0]] w fun r' w' => r' = .returned (.tuple #[.string X, .int .i64 0]) ∧ Below w.heap.size w w' := by
  have K0 : Hid (BS w [(w.heap.size + 1, [.int .i64 o, .int .i64 r, .int .i64 0]), (w.heap.size, [.int .i64 0, .int .i64 M, .int .i64 D, .int .i64 U])] ((w.alloc (.cells #[.int .i64 0, .int .i64 M, .int .i64 D, .int .i64 U] 40)).alloc (.cells #[.int .i64 o, .int .i64 r, .int .i64 0] 27))) := (((BS.start w).new [.int .i64 0, .int .i64 M, .int .i64 D, .int .i64 U] 40 rfl).new [.int .i64 o, .int .i64 r, .int .i64 0] 27 (by simp))
  go_enter Tryz.func15, Tryz.ntmps15
  go_wp2_with fail
  refine (S1.out _).mono ?_
  rintro e W1 ⟨rfl, hb⟩
  have K1 := bsb K0 hb
  clear hb K0
  obtain ⟨c1_0_0, c1_0_1, c1_0_2⟩ := (bo1 K1).c3
  obtain ⟨c1_1_0, c1_1_1, c1_1_2, c1_1_3⟩ := (bo2 K1).c4
  go_wp2_with fail
  refine (P1.out _).mono ?_
  rintro e W2 ⟨rfl, hb⟩
  have K2 := bsb K1 hb
  clear c1_0_0 c1_0_1 c1_0_2 c1_1_0 c1_1_1 c1_1_2 c1_1_3
  clear hb K1
  obtain ⟨c2_0_0, c2_0_1, c2_0_2⟩ := (bo1 K2).c3
  obtain ⟨c2_1_0, c2_1_1, c2_1_2, c2_1_3⟩ := (bo2 K2).c4
  go_wp2_with fail
  refine (F.out _ (hL.out _ K2.out.1)).mono ?_
  rintro e W3 ⟨rfl, hb⟩
  have K3 := bsb K2 hb
  clear c2_0_0 c2_0_1 c2_0_2 c2_1_0 c2_1_1 c2_1_2 c2_1_3
  clear hb K2
  obtain ⟨c3_0_0, c3_0_1, c3_0_2⟩ := (bo1 K3).c3
  obtain ⟨c3_1_0, c3_1_1, c3_1_2, c3_1_3⟩ := (bo2 K3).c4
  go_wp2
  go_ret2
  exact ⟨rfl, K3.out.1⟩


set_option maxRecDepth 100000 in
set_option maxHeartbeats 4000000 in
theorem dated_run (d y m q : Int) (A B E G Y X : ByteArray) (y1 : 1 ≤ y) (y2 : y ≤ 1000000)
    (PA : Hid (∀ w : World, LT w → Calls Tryz.prog 40 #[.agg #[.int .i64 0, .int .i64 d]] w fun r' w' => r' = .returned (.tuple #[.int .i64 y, .int .i64 m, .int .i64 q, .int .i64 0]) ∧ Below w.heap.size w w'))
    (Q1 : Hid (∀ w : World, LT w → Calls Tryz.prog 41 #[.int .i64 (y / 100)] w fun r' w' => r' = .returned (.string A) ∧ Below w.heap.size w w'))
    (Q2 : Hid (∀ w : World, LT w → Calls Tryz.prog 41 #[.int .i64 (y % 100)] w fun r' w' => r' = .returned (.string B) ∧ Below w.heap.size w w'))
    (J1 : Hid (∀ (b : Nat) (w : World), Bx w b [.string A, .string B] → Calls Tryz.prog 20 #[.string ⟨#[]⟩, .slice (some ⟨b, 0, none⟩) 2 2] w fun r' w' => r' = .returned (.string (Y)) ∧ Below w.heap.size w w'))
    (Q3 : Hid (∀ w : World, LT w → Calls Tryz.prog 41 #[.int .i64 m] w fun r' w' => r' = .returned (.string E) ∧ Below w.heap.size w w'))
    (Q4 : Hid (∀ w : World, LT w → Calls Tryz.prog 41 #[.int .i64 q] w fun r' w' => r' = .returned (.string G) ∧ Below w.heap.size w w'))
    (J2 : Hid (∀ (b : Nat) (w : World), Bx w b [.string G, .string E, .string Y] → Calls Tryz.prog 20 #[.string ⟨#[47]⟩, .slice (some ⟨b, 0, none⟩) 3 3] w fun r' w' => r' = .returned (.string (X)) ∧ Below w.heap.size w w'))
    (w : World) (hL : Hid (∀ W : World, Below w.heap.size w W → LT W)) :
    Calls Tryz.prog 19 #[.agg #[.int .i64 0, .int .i64 d], .agg #[.int .i64 1, .int .i64 1, .int .i64 0]] w fun r' w' => r' = .returned (.tuple #[.string X, .string ⟨#[]⟩]) ∧ Below w.heap.size w w' := by
  have K0 : Hid (BS w [(w.heap.size + 1, [.int .i64 1, .int .i64 1, .int .i64 0]), (w.heap.size, [.int .i64 0, .int .i64 d])] ((w.alloc (.cells #[.int .i64 0, .int .i64 d] 23)).alloc (.cells #[.int .i64 1, .int .i64 1, .int .i64 0] 27))) := (((BS.start w).new [.int .i64 0, .int .i64 d] 23 rfl).new [.int .i64 1, .int .i64 1, .int .i64 0] 27 (by simp))
  go_enter Tryz.func19, Tryz.ntmps19
  go_wp2_with fail
  refine (PA.out _ (hL.out _ K0.out.1)).mono ?_
  rintro e W1 ⟨rfl, hb⟩
  have K1 := bsb K0 hb
  clear hb K0
  obtain ⟨c1_0_0, c1_0_1, c1_0_2⟩ := (bo1 K1).c3
  obtain ⟨c1_1_0, c1_1_1⟩ := (bo2 K1).c2
  go_wp2_with fail
  refine (Q1.out _ (hL.out _ K1.out.1)).mono ?_
  rintro e W2 ⟨rfl, hb⟩
  have K2 := bsb K1 hb
  clear c1_0_0 c1_0_1 c1_0_2 c1_1_0 c1_1_1
  clear hb K1
  obtain ⟨c2_0_0, c2_0_1, c2_0_2⟩ := (bo1 K2).c3
  obtain ⟨c2_1_0, c2_1_1⟩ := (bo2 K2).c2
  go_wp2_with fail
  refine (Q2.out _ (hL.out _ K2.out.1)).mono ?_
  rintro e W3 ⟨rfl, hb⟩
  have K3 := bsb K2 hb
  clear c2_0_0 c2_0_1 c2_0_2 c2_1_0 c2_1_1
  clear hb K2
  obtain ⟨c3_0_0, c3_0_1, c3_0_2⟩ := (bo1 K3).c3
  obtain ⟨c3_1_0, c3_1_1⟩ := (bo2 K3).c2
  have Kj4 : Hid (BS w [(W3.heap.size, [.string A, .string B]), (w.heap.size + 1, [.int .i64 1, .int .i64 1, .int .i64 0]), (w.heap.size, [.int .i64 0, .int .i64 d])] (W3.alloc (.cells #[.string A, .string B] 9))) := K3.out.new [.string A, .string B] 9 rfl
  go_wp2_with fail
  refine (J1.out _ _ (bo1 Kj4)).mono ?_
  rintro e W4 ⟨rfl, hb⟩
  have K4 := bsb Kj4 hb
  clear c3_0_0 c3_0_1 c3_0_2 c3_1_0 c3_1_1
  clear hb Kj4 K3
  go_wp2_with fail
  refine (Q3.out _ (hL.out _ K4.out.1)).mono ?_
  rintro e W5 ⟨rfl, hb⟩
  have K5 := bsb K4 hb
  clear hb K4
  obtain ⟨c5_0_0, c5_0_1⟩ := (bo1 K5).c2
  obtain ⟨c5_1_0, c5_1_1, c5_1_2⟩ := (bo2 K5).c3
  obtain ⟨c5_2_0, c5_2_1⟩ := (bo3 K5).c2
  go_wp2_with fail
  refine (Q4.out _ (hL.out _ K5.out.1)).mono ?_
  rintro e W6 ⟨rfl, hb⟩
  have K6 := bsb K5 hb
  clear c5_0_0 c5_0_1 c5_1_0 c5_1_1 c5_1_2 c5_2_0 c5_2_1
  clear hb K5
  obtain ⟨c6_0_0, c6_0_1⟩ := (bo1 K6).c2
  obtain ⟨c6_1_0, c6_1_1, c6_1_2⟩ := (bo2 K6).c3
  obtain ⟨c6_2_0, c6_2_1⟩ := (bo3 K6).c2
  obtain ⟨sy0, sy1, sy2⟩ := (bo2 K6).c3
  have Kj7 : Hid (BS w [(W6.heap.size, [.string G, .string E, .string Y]), (W3.heap.size, [.string A, .string B]), (w.heap.size + 1, [.int .i64 1, .int .i64 1, .int .i64 0]), (w.heap.size, [.int .i64 0, .int .i64 d])] (W6.alloc (.cells #[.string G, .string E, .string Y] 9))) := K6.out.new [.string G, .string E, .string Y] 9 rfl
  go_wp2_with fail
  refine (J2.out _ _ (bo1 Kj7)).mono ?_
  rintro e W7 ⟨rfl, hb⟩
  have K7 := bsb Kj7 hb
  clear c6_0_0 c6_0_1 c6_1_0 c6_1_1 c6_1_2 c6_2_0 c6_2_1
  clear hb Kj7 K6
  go_wp2
  go_ret2
  exact ⟨rfl, K7.out.1⟩


set_option maxRecDepth 100000 in
set_option maxHeartbeats 4000000 in
theorem date_run (d : Int) (X Y : ByteArray)
    (S1 : Hid (∀ w : World, Calls Tryz.prog 10 #[.agg #[.int .i64 1, .int .i64 1, .int .i64 0]] w fun r' w' => r' = .returned (.bool true) ∧ Below w.heap.size w w'))
    (R1 : Hid (∀ w : World, LT w → Calls Tryz.prog 17 #[.agg #[.int .i64 0, .int .i64 d]] w fun r' w' => r' = .returned (.bool true) ∧ Below w.heap.size w w'))
    (DD : Hid (∀ w : World, LT w → Calls Tryz.prog 19 #[.agg #[.int .i64 0, .int .i64 d], .agg #[.int .i64 1, .int .i64 1, .int .i64 0]] w fun r' w' => r' = .returned (.tuple #[.string X, .string ⟨#[]⟩]) ∧ Below w.heap.size w w'))
    (J1 : Hid (∀ (b : Nat) (w : World), Bx w b [.string X, .string ⟨#[]⟩] → Calls Tryz.prog 20 #[.string ⟨#[]⟩, .slice (some ⟨b, 0, none⟩) 2 2] w fun r' w' => r' = .returned (.string (Y)) ∧ Below w.heap.size w w'))
    (w : World) (hL : Hid (∀ W : World, Below w.heap.size w W → LT W)) :
    Calls Tryz.prog 6 #[.agg #[.int .i64 0, .int .i64 d], .agg #[.int .i64 1, .int .i64 1, .int .i64 0]] w fun r' w' => r' = .returned (.tuple #[.string Y, .int .i64 0]) ∧ Below w.heap.size w w' := by
  have K0 : Hid (BS w [(w.heap.size + 1, [.int .i64 1, .int .i64 1, .int .i64 0]), (w.heap.size, [.int .i64 0, .int .i64 d])] ((w.alloc (.cells #[.int .i64 0, .int .i64 d] 23)).alloc (.cells #[.int .i64 1, .int .i64 1, .int .i64 0] 27))) := (((BS.start w).new [.int .i64 0, .int .i64 d] 23 rfl).new [.int .i64 1, .int .i64 1, .int .i64 0] 27 (by simp))
  go_enter Tryz.func6, Tryz.ntmps6
  go_wp2_with fail
  refine (S1.out _).mono ?_
  rintro e W1 ⟨rfl, hb⟩
  have K1 := bsb K0 hb
  clear hb K0
  obtain ⟨c1_0_0, c1_0_1, c1_0_2⟩ := (bo1 K1).c3
  obtain ⟨c1_1_0, c1_1_1⟩ := (bo2 K1).c2
  go_wp2_with fail
  refine (R1.out _ (hL.out _ K1.out.1)).mono ?_
  rintro e W2 ⟨rfl, hb⟩
  have K2 := bsb K1 hb
  clear c1_0_0 c1_0_1 c1_0_2 c1_1_0 c1_1_1
  clear hb K1
  obtain ⟨c2_0_0, c2_0_1, c2_0_2⟩ := (bo1 K2).c3
  obtain ⟨c2_1_0, c2_1_1⟩ := (bo2 K2).c2
  go_wp2_with fail
  refine (DD.out _ (hL.out _ K2.out.1)).mono ?_
  rintro e W3 ⟨rfl, hb⟩
  have K3 := bsb K2 hb
  clear c2_0_0 c2_0_1 c2_0_2 c2_1_0 c2_1_1
  clear hb K2
  obtain ⟨c3_0_0, c3_0_1, c3_0_2⟩ := (bo1 K3).c3
  obtain ⟨c3_1_0, c3_1_1⟩ := (bo2 K3).c2
  have Kj4 : Hid (BS w [(W3.heap.size, [.string X, .string ⟨#[]⟩]), (w.heap.size + 1, [.int .i64 1, .int .i64 1, .int .i64 0]), (w.heap.size, [.int .i64 0, .int .i64 d])] (W3.alloc (.cells #[.string X, .string ⟨#[]⟩] 9))) := K3.out.new [.string X, .string ⟨#[]⟩] 9 rfl
  go_wp2_with fail
  refine (J1.out _ _ (bo1 Kj4)).mono ?_
  rintro e W4 ⟨rfl, hb⟩
  have K4 := bsb Kj4 hb
  clear c3_0_0 c3_0_1 c3_0_2 c3_1_0 c3_1_1
  clear hb Kj4 K3
  go_wp2
  go_ret2
  exact ⟨rfl, K4.out.1⟩


set_option maxRecDepth 100000 in
set_option maxHeartbeats 4000000 in
theorem known19_run 
    (A1 : Hid (∀ w : World, LT w → Calls Tryz.prog 15 #[.agg #[.int .i64 0, .int .i64 14, .int .i64 3, .int .i64 (-14706500000)], .agg #[.int .i64 0, .int .i64 0, .int .i64 0]] w fun r' w' => r' = .returned (.tuple #[.string ⟨#[49, 32, 121, 101, 97, 114, 32, 50, 32, 109, 111, 110, 115, 32, 51, 32, 100, 97, 121, 115, 32, 45, 48, 52, 58, 48, 53, 58, 48, 54, 46, 53]⟩, .int .i64 0]) ∧ Below w.heap.size w w'))
    (A2 : Hid (∀ w : World, LT w → Calls Tryz.prog 15 #[.agg #[.int .i64 0, .int .i64 14, .int .i64 3, .int .i64 (-14706500000)], .agg #[.int .i64 0, .int .i64 0, .int .i64 1]] w fun r' w' => r' = .returned (.tuple #[.string ⟨#[43, 49, 45, 50, 32, 43, 51, 32, 45, 52, 58, 48, 53, 58, 48, 54, 46, 53]⟩, .int .i64 0]) ∧ Below w.heap.size w w'))
    (A3 : Hid (∀ w : World, LT w → Calls Tryz.prog 15 #[.agg #[.int .i64 0, .int .i64 14, .int .i64 3, .int .i64 (-14706500000)], .agg #[.int .i64 0, .int .i64 0, .int .i64 2]] w fun r' w' => r' = .returned (.tuple #[.string ⟨#[80, 49, 89, 50, 77, 51, 68, 84, 45, 52, 72, 45, 53, 77, 45, 54, 46, 53, 83]⟩, .int .i64 0]) ∧ Below w.heap.size w w'))
    (A4 : Hid (∀ w : World, LT w → Calls Tryz.prog 15 #[.agg #[.int .i64 0, .int .i64 (-1), .int .i64 1, .int .i64 0], .agg #[.int .i64 0, .int .i64 0, .int .i64 0]] w fun r' w' => r' = .returned (.tuple #[.string ⟨#[45, 49, 32, 109, 111, 110, 115, 32, 43, 49, 32, 100, 97, 121]⟩, .int .i64 0]) ∧ Below w.heap.size w w'))
    (A5 : Hid (∀ w : World, LT w → Calls Tryz.prog 6 #[.agg #[.int .i64 0, .int .i64 8826], .agg #[.int .i64 1, .int .i64 1, .int .i64 0]] w fun r' w' => r' = .returned (.tuple #[.string ⟨#[48, 49, 47, 48, 51, 47, 50, 48, 50, 52]⟩, .int .i64 0]) ∧ Below w.heap.size w w'))
    (w : World) (hL : Hid (∀ W : World, Below w.heap.size w W → LT W)) :
    Calls Tryz.prog 12 #[] w fun r' w' => r' = .returned (.bool true) ∧ Below w.heap.size w w' := by
  have K0 : Hid (BS w [] w) := (BS.start w)
  go_enter Tryz.func12, Tryz.ntmps12
  have Mz0 := bsn K0 [.int .i64 0, .int .i64 14, .int .i64 3, .int .i64 (-14706500000)] 40
  go_upto_region 2 with fail
  refine bs_to Mz0 ?_
  intro W1 K1
  clear Mz0 K0
  obtain ⟨c1_0_0, c1_0_1, c1_0_2, c1_0_3⟩ := (bo1 K1).c4
  go_wp2_with fail
  refine (A1.out _ (hL.out _ K1.out.1)).mono ?_
  rintro e W2 ⟨rfl, hb⟩
  have K2 := bsb K1 hb
  clear c1_0_0 c1_0_1 c1_0_2 c1_0_3
  clear hb K1
  obtain ⟨c2_0_0, c2_0_1, c2_0_2, c2_0_3⟩ := (bo1 K2).c4
  go_wp2_with fail
  refine (A2.out _ (hL.out _ K2.out.1)).mono ?_
  rintro e W3 ⟨rfl, hb⟩
  have K3 := bsb K2 hb
  clear c2_0_0 c2_0_1 c2_0_2 c2_0_3
  clear hb K2
  obtain ⟨c3_0_0, c3_0_1, c3_0_2, c3_0_3⟩ := (bo1 K3).c4
  go_wp2_with fail
  refine (A3.out _ (hL.out _ K3.out.1)).mono ?_
  rintro e W4 ⟨rfl, hb⟩
  have K4 := bsb K3 hb
  clear c3_0_0 c3_0_1 c3_0_2 c3_0_3
  clear hb K3
  obtain ⟨c4_0_0, c4_0_1, c4_0_2, c4_0_3⟩ := (bo1 K4).c4
  go_wp2_with fail
  refine (A4.out _ (hL.out _ K4.out.1)).mono ?_
  rintro e W5 ⟨rfl, hb⟩
  have K5 := bsb K4 hb
  clear c4_0_0 c4_0_1 c4_0_2 c4_0_3
  clear hb K4
  obtain ⟨c5_0_0, c5_0_1, c5_0_2, c5_0_3⟩ := (bo1 K5).c4
  go_wp2_with fail
  refine (A5.out _ (hL.out _ K5.out.1)).mono ?_
  rintro e W6 ⟨rfl, hb⟩
  have K6 := bsb K5 hb
  clear c5_0_0 c5_0_1 c5_0_2 c5_0_3
  clear hb K5
  obtain ⟨c6_0_0, c6_0_1, c6_0_2, c6_0_3⟩ := (bo1 K6).c4
  go_wp2
  go_ret
  exact ⟨rfl, K6.out.1⟩



end Go.Proofs.YtmohhbgmbicklaaGreatDoor
