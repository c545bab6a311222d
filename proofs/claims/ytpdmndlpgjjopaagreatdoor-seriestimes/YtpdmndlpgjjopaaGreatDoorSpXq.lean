/- SpA, SpB, SpC, as one text. -/
import Derived.Test.YtpdmndlpgjjopaaGreatDoorBxZq
import Derived.Test.YtpdmndlpgjjopaaGreatDoorBxCq
import Derived.Deep.Cut
import Derived.Test.YtpdmndlpgjjopaaGreatDoorNmZq
/- Small things of package span: counts, what comes first, what is lent. -/
namespace Go.Proofs.YtpdmndlpgjjopaaGreatDoor.Sp
open Go.RowKit
set_option linter.unusedVariables false

theorem ret_bool {a b : Bool} (h : a = b) : Ending.returned (.bool a) = .returned (.bool b) := by rw [h]
/-- can there be so many months, or days? -/
def cnt (n : Int) : Bool := decide (-2147483647 ≤ n ∧ n ≤ 2147483647)
theorem cnt_yes {n : Int} (h : cnt n = true) : -2147483647 ≤ n ∧ n ≤ 2147483647 := of_decide_eq_true h
set_option maxRecDepth 100000 in
set_option maxHeartbeats 4000000 in
theorem cnt_t (n : Int) (h1 : -2147483647 ≤ n) (h2 : n ≤ 2147483647)
    (w : World) :
    Calls Tryz.prog 36 #[.int .i64 n] w fun r' w' => r' = .returned (.bool true) ∧ w' = w := by
  go_enter Tryz.func36, Tryz.ntmps36
  go_wp2
  go_ret
  exact ⟨by first | rfl | exact ret_bool (by simp; omega), rfl⟩

set_option maxRecDepth 100000 in
set_option maxHeartbeats 4000000 in
theorem cnt_f1 (n : Int) (h1 : ¬ -2147483647 ≤ n)
    (w : World) :
    Calls Tryz.prog 36 #[.int .i64 n] w fun r' w' => r' = .returned (.bool false) ∧ w' = w := by
  go_enter Tryz.func36, Tryz.ntmps36
  go_wp2
  go_ret
  exact ⟨by first | rfl | exact ret_bool (by simp; omega), rfl⟩

set_option maxRecDepth 100000 in
set_option maxHeartbeats 4000000 in
theorem cnt_f2 (n : Int) (h1 : -2147483647 ≤ n) (h2 : ¬ n ≤ 2147483647)
    (w : World) :
    Calls Tryz.prog 36 #[.int .i64 n] w fun r' w' => r' = .returned (.bool false) ∧ w' = w := by
  go_enter Tryz.func36, Tryz.ntmps36
  go_wp2
  go_ret
  exact ⟨by first | rfl | exact ret_bool (by simp; omega), rfl⟩

theorem isCount_any (n : Int) (w : World) : Calls Tryz.prog 36 #[.int .i64 n] w fun r w' => r = .returned (.bool (cnt n)) ∧ w' = w := by
  unfold cnt
  by_cases h1 : -2147483647 ≤ n
  · by_cases h2 : n ≤ 2147483647
    · rw [decide_eq_true ⟨h1, h2⟩]; exact cnt_t n h1 h2 w
    · rw [decide_eq_false (fun k => h2 k.2)]; exact cnt_f2 n h1 h2 w
  · rw [decide_eq_false (fun k => h1 k.1)]; exact cnt_f1 n h1 w

end Go.Proofs.YtpdmndlpgjjopaaGreatDoor.Sp

/- Whether an interval can be: the program's Right and the reference's. -/
namespace Go.Proofs.YtpdmndlpgjjopaaGreatDoor.Sp
open Go.RowKit
set_option linter.unusedVariables false

/-- can an interval be? -/
def pR (i m d u : Int) : Bool := if i = 0 then cnt m && (cnt d && decide (-9223372036854775807 ≤ u ∧ u ≤ 9223372036854775807)) else decide ((i = -1 ∨ i = 1) ∧ m = 0 ∧ d = 0 ∧ u = 0)
theorem pR_1 {i : Int} (h : i ≠ 0) (m d u : Int) : pR i m d u = decide ((i = -1 ∨ i = 1) ∧ m = 0 ∧ d = 0 ∧ u = 0) := if_neg h
theorem pR_0 (m d u : Int) : pR 0 m d u = (cnt m && (cnt d && decide (-9223372036854775807 ≤ u ∧ u ≤ 9223372036854775807))) := rfl
theorem pR_yes {i m d u : Int} (h : pR i m d u = true) : (i = 0 ∧ -2147483647 ≤ m ∧ m ≤ 2147483647 ∧ -2147483647 ≤ d ∧ d ≤ 2147483647 ∧ -9223372036854775807 ≤ u ∧ u ≤ 9223372036854775807) ∨ ((i = -1 ∨ i = 1) ∧ m = 0 ∧ d = 0 ∧ u = 0) := by
  by_cases h0 : i = 0
  · subst h0
    rw [pR_0, Bool.and_eq_true, Bool.and_eq_true] at h
    obtain ⟨a, b, c⟩ := h
    exact .inl ⟨rfl, (cnt_yes a).1, (cnt_yes a).2, (cnt_yes b).1, (cnt_yes b).2, (of_decide_eq_true c).1, (of_decide_eq_true c).2⟩
  · rw [pR_1 h0] at h
    exact .inr (of_decide_eq_true h)
set_option maxRecDepth 100000 in
set_option maxHeartbeats 4000000 in
theorem pr_f1 (m d u : Int)
    (C1 : Hid (∀ w : World, Calls Tryz.prog 36 #[.int .i64 m] w fun r' w' => r' = .returned (.bool false) ∧ w' = w))
    (w : World) :
    Calls Tryz.prog 18 #[.agg #[.int .i64 0, .int .i64 m, .int .i64 d, .int .i64 u]] w fun r' w' => r' = .returned (.bool false) ∧ Below w.heap.size w w' := by
  have K0 : Hid (BS w [(w.heap.size, [.int .i64 0, .int .i64 m, .int .i64 d, .int .i64 u])] (w.alloc (.cells #[.int .i64 0, .int .i64 m, .int .i64 d, .int .i64 u] 38))) := ((BS.start w).new [.int .i64 0, .int .i64 m, .int .i64 d, .int .i64 u] 38 rfl)
  go_enter Tryz.func18, Tryz.ntmps18
  go_wp2_with fail
  refine (C1.out _).mono ?_
  rintro e W1 ⟨rfl, rfl⟩
  go_wp2
  go_ret
  exact ⟨rfl, K0.out.1⟩

set_option maxRecDepth 100000 in
set_option maxHeartbeats 4000000 in
theorem pr_f2 (m d u : Int)
    (C1 : Hid (∀ w : World, Calls Tryz.prog 36 #[.int .i64 m] w fun r' w' => r' = .returned (.bool true) ∧ w' = w))
    (C2 : Hid (∀ w : World, Calls Tryz.prog 36 #[.int .i64 d] w fun r' w' => r' = .returned (.bool false) ∧ w' = w))
    (w : World) :
    Calls Tryz.prog 18 #[.agg #[.int .i64 0, .int .i64 m, .int .i64 d, .int .i64 u]] w fun r' w' => r' = .returned (.bool false) ∧ Below w.heap.size w w' := by
  have K0 : Hid (BS w [(w.heap.size, [.int .i64 0, .int .i64 m, .int .i64 d, .int .i64 u])] (w.alloc (.cells #[.int .i64 0, .int .i64 m, .int .i64 d, .int .i64 u] 38))) := ((BS.start w).new [.int .i64 0, .int .i64 m, .int .i64 d, .int .i64 u] 38 rfl)
  go_enter Tryz.func18, Tryz.ntmps18
  go_wp2_with fail
  refine (C1.out _).mono ?_
  rintro e W1 ⟨rfl, rfl⟩
  go_wp2_with fail
  refine (C2.out _).mono ?_
  rintro e W2 ⟨rfl, rfl⟩
  go_wp2
  go_ret
  exact ⟨rfl, K0.out.1⟩

set_option maxRecDepth 100000 in
set_option maxHeartbeats 4000000 in
theorem pr_f3 (m d : Int)
    (C1 : Hid (∀ w : World, Calls Tryz.prog 36 #[.int .i64 m] w fun r' w' => r' = .returned (.bool true) ∧ w' = w))
    (C2 : Hid (∀ w : World, Calls Tryz.prog 36 #[.int .i64 d] w fun r' w' => r' = .returned (.bool true) ∧ w' = w))
    (w : World) :
    Calls Tryz.prog 18 #[.agg #[.int .i64 0, .int .i64 m, .int .i64 d, .int .i64 (-9223372036854775808)]] w fun r' w' => r' = .returned (.bool false) ∧ Below w.heap.size w w' := by
  have K0 : Hid (BS w [(w.heap.size, [.int .i64 0, .int .i64 m, .int .i64 d, .int .i64 (-9223372036854775808)])] (w.alloc (.cells #[.int .i64 0, .int .i64 m, .int .i64 d, .int .i64 (-9223372036854775808)] 38))) := ((BS.start w).new [.int .i64 0, .int .i64 m, .int .i64 d, .int .i64 (-9223372036854775808)] 38 rfl)
  go_enter Tryz.func18, Tryz.ntmps18
  go_wp2_with fail
  refine (C1.out _).mono ?_
  rintro e W1 ⟨rfl, rfl⟩
  go_wp2_with fail
  refine (C2.out _).mono ?_
  rintro e W2 ⟨rfl, rfl⟩
  go_wp2
  go_ret
  exact ⟨rfl, K0.out.1⟩

set_option maxRecDepth 100000 in
set_option maxHeartbeats 4000000 in
theorem pr_t (m d u : Int) (hu : u ≠ -9223372036854775808)
    (C1 : Hid (∀ w : World, Calls Tryz.prog 36 #[.int .i64 m] w fun r' w' => r' = .returned (.bool true) ∧ w' = w))
    (C2 : Hid (∀ w : World, Calls Tryz.prog 36 #[.int .i64 d] w fun r' w' => r' = .returned (.bool true) ∧ w' = w))
    (w : World) :
    Calls Tryz.prog 18 #[.agg #[.int .i64 0, .int .i64 m, .int .i64 d, .int .i64 u]] w fun r' w' => r' = .returned (.bool true) ∧ Below w.heap.size w w' := by
  have u1 : (u != -9223372036854775808) = true := bne_iff_ne.2 hu
  have K0 : Hid (BS w [(w.heap.size, [.int .i64 0, .int .i64 m, .int .i64 d, .int .i64 u])] (w.alloc (.cells #[.int .i64 0, .int .i64 m, .int .i64 d, .int .i64 u] 38))) := ((BS.start w).new [.int .i64 0, .int .i64 m, .int .i64 d, .int .i64 u] 38 rfl)
  go_enter Tryz.func18, Tryz.ntmps18
  go_wp2_with fail
  refine (C1.out _).mono ?_
  rintro e W1 ⟨rfl, rfl⟩
  go_wp2_with fail
  refine (C2.out _).mono ?_
  rintro e W2 ⟨rfl, rfl⟩
  go_wp2
  go_ret
  exact ⟨rfl, K0.out.1⟩

set_option maxRecDepth 100000 in
set_option maxHeartbeats 4000000 in
theorem pr_m0 
    (w : World) :
    Calls Tryz.prog 18 #[.agg #[.int .i64 (-1), .int .i64 0, .int .i64 0, .int .i64 0]] w fun r' w' => r' = .returned (.bool true) ∧ Below w.heap.size w w' := by
  have K0 : Hid (BS w [(w.heap.size, [.int .i64 (-1), .int .i64 0, .int .i64 0, .int .i64 0])] (w.alloc (.cells #[.int .i64 (-1), .int .i64 0, .int .i64 0, .int .i64 0] 38))) := ((BS.start w).new [.int .i64 (-1), .int .i64 0, .int .i64 0, .int .i64 0] 38 rfl)
  go_enter Tryz.func18, Tryz.ntmps18
  go_wp2
  go_ret
  exact ⟨rfl, K0.out.1⟩

set_option maxRecDepth 100000 in
set_option maxHeartbeats 4000000 in
theorem pr_m1 (m d u : Int) (h : m ≠ 0)
    (w : World) :
    Calls Tryz.prog 18 #[.agg #[.int .i64 (-1), .int .i64 m, .int .i64 d, .int .i64 u]] w fun r' w' => r' = .returned (.bool false) ∧ Below w.heap.size w w' := by
  have h1 : (m == 0) = false := by simpa using h
  have K0 : Hid (BS w [(w.heap.size, [.int .i64 (-1), .int .i64 m, .int .i64 d, .int .i64 u])] (w.alloc (.cells #[.int .i64 (-1), .int .i64 m, .int .i64 d, .int .i64 u] 38))) := ((BS.start w).new [.int .i64 (-1), .int .i64 m, .int .i64 d, .int .i64 u] 38 rfl)
  go_enter Tryz.func18, Tryz.ntmps18
  go_wp2
  go_ret
  exact ⟨rfl, K0.out.1⟩

set_option maxRecDepth 100000 in
set_option maxHeartbeats 4000000 in
theorem pr_m2 (d u : Int) (h : d ≠ 0)
    (w : World) :
    Calls Tryz.prog 18 #[.agg #[.int .i64 (-1), .int .i64 0, .int .i64 d, .int .i64 u]] w fun r' w' => r' = .returned (.bool false) ∧ Below w.heap.size w w' := by
  have h1 : (d == 0) = false := by simpa using h
  have K0 : Hid (BS w [(w.heap.size, [.int .i64 (-1), .int .i64 0, .int .i64 d, .int .i64 u])] (w.alloc (.cells #[.int .i64 (-1), .int .i64 0, .int .i64 d, .int .i64 u] 38))) := ((BS.start w).new [.int .i64 (-1), .int .i64 0, .int .i64 d, .int .i64 u] 38 rfl)
  go_enter Tryz.func18, Tryz.ntmps18
  go_wp2
  go_ret
  exact ⟨rfl, K0.out.1⟩

set_option maxRecDepth 100000 in
set_option maxHeartbeats 4000000 in
theorem pr_m3 (u : Int) (h : u ≠ 0)
    (w : World) :
    Calls Tryz.prog 18 #[.agg #[.int .i64 (-1), .int .i64 0, .int .i64 0, .int .i64 u]] w fun r' w' => r' = .returned (.bool false) ∧ Below w.heap.size w w' := by
  have h1 : (u == 0) = false := by simpa using h
  have K0 : Hid (BS w [(w.heap.size, [.int .i64 (-1), .int .i64 0, .int .i64 0, .int .i64 u])] (w.alloc (.cells #[.int .i64 (-1), .int .i64 0, .int .i64 0, .int .i64 u] 38))) := ((BS.start w).new [.int .i64 (-1), .int .i64 0, .int .i64 0, .int .i64 u] 38 rfl)
  go_enter Tryz.func18, Tryz.ntmps18
  go_wp2
  go_ret
  exact ⟨rfl, K0.out.1⟩

set_option maxRecDepth 100000 in
set_option maxHeartbeats 4000000 in
theorem pr_p0 
    (w : World) :
    Calls Tryz.prog 18 #[.agg #[.int .i64 1, .int .i64 0, .int .i64 0, .int .i64 0]] w fun r' w' => r' = .returned (.bool true) ∧ Below w.heap.size w w' := by
  have K0 : Hid (BS w [(w.heap.size, [.int .i64 1, .int .i64 0, .int .i64 0, .int .i64 0])] (w.alloc (.cells #[.int .i64 1, .int .i64 0, .int .i64 0, .int .i64 0] 38))) := ((BS.start w).new [.int .i64 1, .int .i64 0, .int .i64 0, .int .i64 0] 38 rfl)
  go_enter Tryz.func18, Tryz.ntmps18
  go_wp2
  go_ret
  exact ⟨rfl, K0.out.1⟩

set_option maxRecDepth 100000 in
set_option maxHeartbeats 4000000 in
theorem pr_p1 (m d u : Int) (h : m ≠ 0)
    (w : World) :
    Calls Tryz.prog 18 #[.agg #[.int .i64 1, .int .i64 m, .int .i64 d, .int .i64 u]] w fun r' w' => r' = .returned (.bool false) ∧ Below w.heap.size w w' := by
  have h1 : (m == 0) = false := by simpa using h
  have K0 : Hid (BS w [(w.heap.size, [.int .i64 1, .int .i64 m, .int .i64 d, .int .i64 u])] (w.alloc (.cells #[.int .i64 1, .int .i64 m, .int .i64 d, .int .i64 u] 38))) := ((BS.start w).new [.int .i64 1, .int .i64 m, .int .i64 d, .int .i64 u] 38 rfl)
  go_enter Tryz.func18, Tryz.ntmps18
  go_wp2
  go_ret
  exact ⟨rfl, K0.out.1⟩

set_option maxRecDepth 100000 in
set_option maxHeartbeats 4000000 in
theorem pr_p2 (d u : Int) (h : d ≠ 0)
    (w : World) :
    Calls Tryz.prog 18 #[.agg #[.int .i64 1, .int .i64 0, .int .i64 d, .int .i64 u]] w fun r' w' => r' = .returned (.bool false) ∧ Below w.heap.size w w' := by
  have h1 : (d == 0) = false := by simpa using h
  have K0 : Hid (BS w [(w.heap.size, [.int .i64 1, .int .i64 0, .int .i64 d, .int .i64 u])] (w.alloc (.cells #[.int .i64 1, .int .i64 0, .int .i64 d, .int .i64 u] 38))) := ((BS.start w).new [.int .i64 1, .int .i64 0, .int .i64 d, .int .i64 u] 38 rfl)
  go_enter Tryz.func18, Tryz.ntmps18
  go_wp2
  go_ret
  exact ⟨rfl, K0.out.1⟩

set_option maxRecDepth 100000 in
set_option maxHeartbeats 4000000 in
theorem pr_p3 (u : Int) (h : u ≠ 0)
    (w : World) :
    Calls Tryz.prog 18 #[.agg #[.int .i64 1, .int .i64 0, .int .i64 0, .int .i64 u]] w fun r' w' => r' = .returned (.bool false) ∧ Below w.heap.size w w' := by
  have h1 : (u == 0) = false := by simpa using h
  have K0 : Hid (BS w [(w.heap.size, [.int .i64 1, .int .i64 0, .int .i64 0, .int .i64 u])] (w.alloc (.cells #[.int .i64 1, .int .i64 0, .int .i64 0, .int .i64 u] 38))) := ((BS.start w).new [.int .i64 1, .int .i64 0, .int .i64 0, .int .i64 u] 38 rfl)
  go_enter Tryz.func18, Tryz.ntmps18
  go_wp2
  go_ret
  exact ⟨rfl, K0.out.1⟩

set_option maxRecDepth 100000 in
set_option maxHeartbeats 4000000 in
theorem pr_x (i m d u : Int) (h0 : i ≠ 0) (h1 : i ≠ -1) (h2 : i ≠ 1)
    (w : World) :
    Calls Tryz.prog 18 #[.agg #[.int .i64 i, .int .i64 m, .int .i64 d, .int .i64 u]] w fun r' w' => r' = .returned (.bool false) ∧ Below w.heap.size w w' := by
  have g0 : (i == 0) = false := by simpa using h0
  have g9 : (i != 0) = true := bne_iff_ne.2 h0
  have g1 : (i == -1) = false := by simpa using h1
  have g2 : (i == 1) = false := by simpa using h2
  have K0 : Hid (BS w [(w.heap.size, [.int .i64 i, .int .i64 m, .int .i64 d, .int .i64 u])] (w.alloc (.cells #[.int .i64 i, .int .i64 m, .int .i64 d, .int .i64 u] 38))) := ((BS.start w).new [.int .i64 i, .int .i64 m, .int .i64 d, .int .i64 u] 38 rfl)
  go_enter Tryz.func18, Tryz.ntmps18
  go_wp2
  go_ret
  exact ⟨rfl, K0.out.1⟩

theorem pr_any (i m d u : Int) (u1 : -9223372036854775808 ≤ u) (u2 : u ≤ 9223372036854775807) (w : World) :
    Calls Tryz.prog 18 #[.agg #[.int .i64 i, .int .i64 m, .int .i64 d, .int .i64 u]] w fun r w' => r = .returned (.bool (pR i m d u)) ∧ Below w.heap.size w w' := by
  by_cases h0 : i = 0
  · subst h0
    rw [pR_0]
    cases c1 : cnt m
    · exact pr_f1 m d u (fun w => by rw [← c1]; exact isCount_any m w) w
    · cases c2 : cnt d
      · exact pr_f2 m d u (fun w => by rw [← c1]; exact isCount_any m w) (fun w => by rw [← c2]; exact isCount_any d w) w
      · by_cases hu : u = -9223372036854775808
        · subst hu
          exact pr_f3 m d (fun w => by rw [← c1]; exact isCount_any m w) (fun w => by rw [← c2]; exact isCount_any d w) w
        · rw [decide_eq_true ⟨by omega, u2⟩]
          exact pr_t m d u hu (fun w => by rw [← c1]; exact isCount_any m w) (fun w => by rw [← c2]; exact isCount_any d w) w
  · rw [pR_1 h0]
    by_cases g1 : i = -1
    · subst g1
      by_cases a : m = 0
      · subst a
        by_cases b : d = 0
        · subst b
          by_cases c : u = 0
          · subst c
            rw [decide_eq_true ⟨.inl rfl, rfl, rfl, rfl⟩]; exact pr_m0 w
          · rw [decide_eq_false (fun q => c q.2.2.2)]; exact pr_m3 u c w
        · rw [decide_eq_false (fun q => b q.2.2.1)]; exact pr_m2 d u b w
      · rw [decide_eq_false (fun q => a q.2.1)]; exact pr_m1 m d u a w
    · by_cases g2 : i = 1
      · subst g2
        by_cases a : m = 0
        · subst a
          by_cases b : d = 0
          · subst b
            by_cases c : u = 0
            · subst c
              rw [decide_eq_true ⟨.inr rfl, rfl, rfl, rfl⟩]; exact pr_p0 w
            · rw [decide_eq_false (fun q => c q.2.2.2)]; exact pr_p3 u c w
          · rw [decide_eq_false (fun q => b q.2.2.1)]; exact pr_p2 d u b w
        · rw [decide_eq_false (fun q => a q.2.1)]; exact pr_p1 m d u a w
      · rw [decide_eq_false (fun q => q.1.elim g1 g2)]; exact pr_x i m d u h0 g1 g2 w

end Go.Proofs.YtpdmndlpgjjopaaGreatDoor.Sp

/- Intervals of parts: Make, made, each. -/
namespace Go.Proofs.YtpdmndlpgjjopaaGreatDoor.Sp
open Go.RowKit
set_option linter.unusedVariables false

end Go.Proofs.YtpdmndlpgjjopaaGreatDoor.Sp
